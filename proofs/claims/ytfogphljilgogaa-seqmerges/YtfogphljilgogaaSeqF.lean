/-
  seq.byEpoch, and what a loop over it is told.
  Conditions: the batches can be read.
-/
import Derived.Test.YtfogphljilgogaaSeqE
import Derived.RangeFuncNested
import Derived.RangeFuncBound
import Derived.RangeFuncCalls
import Derived.RangeFuncLeaves
import Derived.RangeFuncFrom
import Derived.Shelf.Abstract
import Derived.Shelf.RegionOpen
import Derived.WalkKit
import Derived.OwnWalkIn
import Derived.TacticsInMore
import Derived.LoopNIn
import Derived.LoopIn
import Derived.ProofKit
namespace Go.Proofs.Ytfogphljilgogaa
open Go.RowKit Go.Shelf
attribute [local go_sem] Oper.semAt_some

/-- The batches in the order of the sequence: of an epoch, of the epochs ahead. -/
structure EvA where
  s : Nat
  e : Nat
  b : BtA
def rowTo (ss : List StA) (e : Nat) : Nat → List EvA
  | 0 => []
  | k + 1 => rowTo ss e k ++ (if e < (ss.getD k st0).bs.length then [⟨k, e, (ss.getD k st0).bs.getD e b0⟩] else [])
def epTo (ss : List StA) : Nat → List EvA
  | 0 => []
  | e + 1 => epTo ss e ++ rowTo ss e ss.length
def evs (ss : List StA) : List EvA := epTo ss 6
theorem rowTo_pre (ss : List StA) (e k : Nat) : ∀ d, rowTo ss e k <+: rowTo ss e (k + d)
  | 0 => List.prefix_refl _
  | d + 1 => (rowTo_pre ss e k d).trans (List.prefix_append _ _)
theorem epTo_pre (ss : List StA) (e : Nat) : ∀ d, epTo ss e <+: epTo ss (e + d)
  | 0 => List.prefix_refl _
  | d + 1 => (epTo_pre ss e d).trans (List.prefix_append _ _)
theorem evs_part (ss : List StA) (e k : Nat) (he : e < 6) (hk : k ≤ ss.length) : epTo ss e ++ rowTo ss e k <+: evs ss := by
  have h1 : rowTo ss e k <+: rowTo ss e ss.length := by
    have := rowTo_pre ss e k (ss.length - k)
    rw [Nat.add_sub_cancel' hk] at this
    exact this
  have h2 : epTo ss (e + 1) <+: evs ss := by
    have := epTo_pre ss (e + 1) (6 - (e + 1))
    rw [Nat.add_sub_cancel' (by omega)] at this
    exact this
  obtain ⟨t, ht⟩ := h1
  refine List.IsPrefix.trans ⟨t, ?_⟩ h2
  rw [epTo, ← ht, List.append_assoc]

/-- A batch of the sequence that can be read in this world. -/
abbrev Ev (w : World) (P : EvA → Prop) := { x : EvA // IsTxs w x.b.a x.b.l ∧ x.b.l.length ≤ maxLen ∧ x.b.l.length ≤ x.b.c ∧ P x }
/-- What a round keeps. -/
def KpE (w0 : World) (Bs : Nat) (W W' : World) : Prop := Below w0.heap.size W W' ∧ W'.cell? ⟨Bs, 0, none⟩ = W.cell? ⟨Bs, 0, none⟩

variable (qa : Option Addr) (qc : Nat) (ss : List StA) (P : EvA → Prop)

set_option maxRecDepth 100000 in
set_option maxHeartbeats 2000000 in
/-- seq.byEpoch's function literal: for every loop body that keeps what lay. -/
theorem byEpoch1_in (F : Fence) (n : Nat) (hF : F.fn 88) (hro : F.round = none) (hn : 1 ≤ n) (l Bs : Nat) (w0 : World) (hS : IsSt w0 qa ss) (hsl : ss.length ≤ maxLen) (hP : ∀ x ∈ evs ss, P x) (J Jx : List (Ev w0 P) → World → Prop)
    (hY : ∀ pre (x : Ev w0 P) W, J pre W → pre.length < (evs ss).length → YieldAt F (n - 1) Try.prog l #[.agg #[.int .i64 x.1.s, .int .i64 x.1.e], .slice x.1.b.a x.1.b.l.length x.1.b.c] W fun e W' =>
      (e = .returned (.bool true) ∧ J (pre ++ [x]) W' ∧ KpE w0 Bs W W') ∨ (e = .returned (.bool false) ∧ Jx (pre ++ [x]) W'))
    (W : World) (hW : Below w0.heap.size w0 W) (hBs : W.cell? ⟨Bs, 0, none⟩ = some (.slice qa ss.length qc)) (h0 : J [] W) :
    CallsIn F n Try.prog 88 #[.func (.yield l) #[] #[], .pointer (some ⟨Bs, 0, none⟩)] W fun e W' => (∃ v, e = .returned v) ∧
      ((∃ ys : List (Ev w0 P), ys.map Subtype.val = evs ss ∧ J ys W') ∨ (∃ pre : List (Ev w0 P), pre.map Subtype.val <+: evs ss ∧ Jx pre W')) := by
  have HPH : Hid (∀ x ∈ evs ss, P x) := hP
  have HS : Hid (IsSt w0 qa ss) := hS
  have HW : Hid (Below w0.heap.size w0 W) := hW
  clear hS hW hP
  unfold maxLen at hsl
  refine callsIn_of_wp Try.func88 rfl hF ?_ hro
  simp only [Try.ntmps88, List.size_toArray, List.length_cons, List.length_nil, Nat.reduceAdd, Nat.reduceSub, Array.replicate_succ, Array.replicate_zero, List.push_toArray, List.append_toArray, List.nil_append, List.cons_append]
  gi_wp2
  gi_loopw [6] (fun i wr => ∃ (e : Nat) (pre : List (Ev w0 P)), e ≤ 6 ∧ i = .int .i64 e ∧ wr.cell? ⟨Bs, 0, none⟩ = some (.slice qa ss.length qc) ∧ Hid (pre.map Subtype.val = epTo ss e) ∧ J pre wr ∧ Hid (Below w0.heap.size w0 wr)) (fun i _ => 6 - (intOf i).toNat)
  case atStart => exact ⟨0, [], Nat.zero_le _, rfl, hBs, rfl, h0, HW⟩
  case round =>
    obtain ⟨e, pre, he, rfl, hbx, hpre, hJ, hB⟩ := hrel
    clear hBs
    by_cases hlt : e < 6
    · have hlt' : (e : Int) < 6 := by omega
      have HPS : Hid (∀ k, k ≤ ss.length → epTo ss e ++ rowTo ss e k <+: evs ss) := fun k hk => evs_part ss e k hlt hk
      gi_wp2
      gi_loopw [11] (fun i wr => ∃ (k : Nat) (pre : List (Ev w0 P)), k ≤ ss.length ∧ i = .int .i64 k ∧ wr.cell? ⟨Bs, 0, none⟩ = some (.slice qa ss.length qc) ∧ Hid (pre.map Subtype.val = epTo ss e ++ rowTo ss e k) ∧ J pre wr ∧ Hid (Below w0.heap.size w0 wr)) (fun i _ => ss.length - (intOf i).toNat)
      case atStart => exact ⟨0, pre, Nat.zero_le _, rfl, hbx, by show _ = _; rw [hpre.out]; simp [rowTo], hJ, hB⟩
      case round =>
        obtain ⟨k, pre2, hk, rfl, hbx2, hpre2, hJ2, hB2⟩ := hrel
        by_cases hlt2 : k < ss.length
        · obtain ⟨b, off, rfl, _, c0, hbs, hbl⟩ := HS.out k hlt2
          have d0 := ext_cell hB2.out c0
          have HBS : Hid (IsBs w0 (ss.getD k st0).a (ss.getD k st0).bs) := hbs
          have HR : Hid (rowTo ss e (k + 1) = rowTo ss e k ++ (if e < (ss.getD k st0).bs.length then [⟨k, e, (ss.getD k st0).bs.getD e b0⟩] else [])) := rfl
          have HP1 := HPS.out (k + 1) hlt2
          clear c0 hbs
          generalize ss.getD k st0 = s at *
          obtain ⟨sa, sc, bs⟩ := s
          simp only at d0 hbl HR HBS
          unfold maxLen at hbl
          by_cases hlt3 : e < bs.length
          · have HR2 : Hid (rowTo ss e (k + 1) = rowTo ss e k ++ [⟨k, e, bs.getD e b0⟩]) := by show _ = _; rw [HR.out, if_pos hlt3]
            obtain ⟨b', off', rfl, _, e0, htx, htl, htc⟩ := HBS.out e hlt3
            have f0 := ext_cell hB2.out e0
            clear HR e0
            generalize bs.getD e b0 = x at *
            have HPL : Hid (pre2.length < (evs ss).length ∧ (epTo ss e ++ rowTo ss e k) ++ [⟨k, e, x⟩] <+: evs ss) := by
              rw [HR2.out, ← List.append_assoc] at HP1
              refine ⟨?_, HP1⟩
              have h1 := HP1.length_le
              have h2 := congrArg List.length hpre2.out
              rw [List.length_map] at h2
              rw [List.length_append] at h1
              simp at h1
              rw [List.length_append] at h2
              omega
            clear HP1
            obtain ⟨fn, tmps, assign, body, hy, hR⟩ := hY pre2 ⟨⟨k, e, x⟩, htx, htl, htc, HPH.out _ (HPL.out.2.subset (by simp))⟩ wr hJ2 HPL.out.1
            dsimp only at hy
            have g1 : (e : Int) < (bs.length : Int) := by omega
            gi_wp2
            refine hR.mono ?_
            rintro en W3 (⟨rfl, hJ3, hk3, hk4⟩ | ⟨rfl, hJx3⟩)
            · have hB3 : Hid (Below w0.heap.size w0 W3) := hB2.out.trans hk3
              have hbx3 : W3.cell? ⟨Bs, 0, none⟩ = some (.slice (some ⟨b, off, none⟩) ss.length qc) := hk4.trans hbx2
              gi_wp2
              go_roundw
              case rel => exact ⟨k + 1, _, by omega, by go_num, hbx3, by show _ = _; rw [List.map_append, hpre2.out, HR2.out]; simp, hJ3, hB3⟩
              case measure => simp [intOf]; omega
            · gi_wp2
              refine bodyPost_ret (results_none rfl _ _ _) rfl ?_
              exact ⟨⟨_, rfl⟩, .inr ⟨_, by rw [List.map_append, hpre2.out]; exact HPL.out.2, hJx3⟩⟩
          · have HR2 : Hid (rowTo ss e (k + 1) = rowTo ss e k) := by show _ = _; rw [HR.out, if_neg hlt3, List.append_nil]
            have g1 : ¬ (e : Int) < (bs.length : Int) := by omega
            clear HR HP1
            gi_wp2
            refine ⟨fun _ h => (by cases h), ?_⟩
            gi_wp2
            go_roundw
            case rel => exact ⟨k + 1, pre2, by omega, by go_num, hbx2, by show _ = _; rw [hpre2.out, HR2.out], hJ2, hB2⟩
            case measure => simp [intOf]; omega
        · have hkk : k = ss.length := by omega
          have hpre3 : Hid (pre2.map Subtype.val = epTo ss (e + 1)) := by
            show _ = _
            rw [hpre2.out, hkk]
            rfl
          gi_wp2
          go_roundw
          case rel => exact ⟨e + 1, pre2, by omega, by go_num, hbx2, hpre3, hJ2, hB2⟩
          case measure => simp [intOf]; omega
    · have hee : e = 6 := by omega
      have hpre3 : Hid (pre.map Subtype.val = evs ss) := by
        show _ = _
        rw [hpre.out, hee]
        rfl
      gi_wp2
      go_end0
      exact ⟨⟨_, rfl⟩, .inl ⟨pre, hpre3.out, hJ⟩⟩

set_option maxRecDepth 100000 in
theorem byEpoch_any (k : Nat) (w : World) : Calls Try.prog 62 #[.slice qa k qc] w fun e w' => e = .returned (.func (.func 88) #[] #[.pointer (some ⟨w.heap.size, 0, none⟩)]) ∧ w' = w.alloc (.cells #[.slice qa k qc] 67) := by
  have hmf : ∀ (fn : Fn) (first cap : Array Value) (w : World), (Instr.makeFunc fn first cap).run Try.prog w = .ok (.func fn first cap) w := fun _ _ _ _ => rfl
  go_enter Try.func62, Try.ntmps62
  go_wp2
  go_ret
  exact ⟨rfl, rfl⟩

theorem byEpoch_stops (n : Nat) (hn : 1 ≤ n) (w0 W : World) (hS : IsSt w0 qa ss) (hsl : ss.length ≤ maxLen) (hP : ∀ x ∈ evs ss, P x) (hW : Below w0.heap.size w0 W) (Bs : Nat) (hBs : W.cell? ⟨Bs, 0, none⟩ = some (.slice qa ss.length qc)) :
    SeqStopsK Fence.wide n Try.prog 88 #[.pointer (some ⟨Bs, 0, none⟩)] (fun x : Ev w0 P => #[.agg #[.int .i64 x.1.s, .int .i64 x.1.e], .slice x.1.b.a x.1.b.l.length x.1.b.c]) (KpE w0 Bs) (fun ys => ys.map Subtype.val = evs ss) (fun pre => pre.map Subtype.val <+: evs ss) (evs ss).length W :=
  fun l J Jx W1 hW1 _ _ hY h0 => byEpoch1_in qa qc ss P Fence.wide n trivial rfl hn l Bs w0 hS hsl hP J Jx hY W1 (hW.trans (hW1.mono hW.size)) (ext_cell hW1 hBs) h0
theorem kpE_t {w0 : World} {Bs : Nat} {A B C : World} (h : KpE w0 Bs A B) (k : KpE w0 Bs B C) : KpE w0 Bs A C := ⟨h.1.trans k.1, k.2.trans h.2⟩
theorem kpE_b {w0 w : World} {Bs : Nat} (hn : w0.heap.size ≤ w.heap.size) (hB : Bs < w.heap.size) (W : World) (l : Nat) (o o' : Obj) (hl : w.heap.size ≤ l) (h : W.heap[l]? = some o) (_ : o.isCells = false) (_ : o.isWalk = false) : KpE w0 Bs W (W.putObj l o') :=
  ⟨belowK_b hn W l o o' hl h (by assumption) (by assumption), World.cell?_of_block (World.putObj_heap_other (by show Bs ≠ l; omega))⟩
end Go.Proofs.Ytfogphljilgogaa
