/-
  Batches of sites: how they lie; seq.bySite, and what a loop over it is told.
  Conditions: the batches can be read.
-/
import Derived.Test.YtfogphljilgogaaSeqC
import Derived.RangeFuncNested
import Derived.RangeFuncBound
import Derived.RangeFuncCalls
import Derived.RangeFuncLeaves
import Derived.Shelf.Abstract
import Derived.Shelf.RegionOpen
import Derived.WalkKit
import Derived.OwnWalkIn
import Derived.TacticsInMore
import Derived.LoopNIn
import Derived.LoopIn
namespace Go.Proofs.Ytfogphljilgogaa
open Go.RowKit Go.Shelf
attribute [local go_sem] Oper.semAt_some

/-- A batch, and where it lies; the batches of a site. -/
structure BtA where
  a : Option Addr
  c : Nat
  l : List TxA
structure StA where
  a : Option Addr
  c : Nat
  bs : List BtA
def b0 : BtA := ⟨none, 0, []⟩
def st0 : StA := ⟨none, 0, []⟩
def IsBs (w : World) (a : Option Addr) (bs : List BtA) : Prop :=
  ∀ i, i < bs.length → ∃ b off, a = some ⟨b, off, none⟩ ∧ b < w.heap.size ∧ w.cell? ⟨b, off + i, none⟩ = some (.slice (bs.getD i b0).a (bs.getD i b0).l.length (bs.getD i b0).c) ∧ IsTxs w (bs.getD i b0).a (bs.getD i b0).l ∧ (bs.getD i b0).l.length ≤ maxLen ∧ (bs.getD i b0).l.length ≤ (bs.getD i b0).c
def IsSt (w : World) (a : Option Addr) (ss : List StA) : Prop :=
  ∀ i, i < ss.length → ∃ b off, a = some ⟨b, off, none⟩ ∧ b < w.heap.size ∧ w.cell? ⟨b, off + i, none⟩ = some (.slice (ss.getD i st0).a (ss.getD i st0).bs.length (ss.getD i st0).c) ∧ IsBs w (ss.getD i st0).a (ss.getD i st0).bs ∧ (ss.getD i st0).bs.length ≤ maxLen
theorem IsBs.below {w w' : World} {a : Option Addr} {bs : List BtA} (h : IsBs w a bs) (hb : Below w.heap.size w w') : IsBs w' a bs := fun i hi => by
  obtain ⟨b, off, ha, hlt, c0, h1, h2, h3⟩ := h i hi
  exact ⟨b, off, ha, Nat.lt_of_lt_of_le hlt hb.size, ext_cell hb c0, h1.below hb, h2, h3⟩
theorem IsSt.below {w w' : World} {a : Option Addr} {ss : List StA} (h : IsSt w a ss) (hb : Below w.heap.size w w') : IsSt w' a ss := fun i hi => by
  obtain ⟨b, off, ha, hlt, c0, h1, h2⟩ := h i hi
  exact ⟨b, off, ha, Nat.lt_of_lt_of_le hlt hb.size, ext_cell hb c0, h1.below hb, h2⟩

/-- A batch that can be read in this world. -/
abbrev Bt (w : World) := { x : BtA // IsTxs w x.a x.l ∧ x.l.length ≤ maxLen ∧ x.l.length ≤ x.c }
/-- All batches, site by site. -/
def allB (ss : List StA) : List BtA := ss.flatMap (fun s => s.bs)
theorem allB_take (ss : List StA) (i : Nat) (h : i < ss.length) : allB (ss.take (i + 1)) = allB (ss.take i) ++ (ss.getD i st0).bs := by
  rw [List.take_succ_eq_append_getElem h]
  unfold allB
  rw [List.flatMap_append]
  simp [List.getD, h]
theorem bt_take (bs : List BtA) (i : Nat) (h : i < bs.length) : bs.take (i + 1) = bs.take i ++ [bs.getD i b0] := by
  rw [List.take_succ_eq_append_getElem h]
  simp [List.getD, h]
theorem allB_part (ss : List StA) (i j : Nat) (hi : i < ss.length) (hj : j < (ss.getD i st0).bs.length) : (allB (ss.take i) ++ (ss.getD i st0).bs.take j).length < (allB ss).length ∧ (allB (ss.take i) ++ (ss.getD i st0).bs.take j) ++ [(ss.getD i st0).bs.getD j b0] <+: allB ss := by
  have e : allB ss = allB (ss.take i) ++ ((ss.getD i st0).bs ++ allB (ss.drop (i + 1))) := by
    have h1 : ss = ss.take i ++ (ss.getD i st0 :: ss.drop (i + 1)) := by
      rw [← drop_get ss i st0 hi, List.take_append_drop]
    conv => lhs; rw [h1]
    unfold allB
    rw [List.flatMap_append, List.flatMap_cons]
  have e2 : (ss.getD i st0).bs = (ss.getD i st0).bs.take j ++ ((ss.getD i st0).bs.getD j b0 :: (ss.getD i st0).bs.drop (j + 1)) := by
    rw [← drop_get _ j b0 hj, List.take_append_drop]
  constructor
  · rw [e, List.length_append, List.length_append, List.length_append, List.length_take]
    omega
  · refine ⟨(ss.getD i st0).bs.drop (j + 1) ++ allB (ss.drop (i + 1)), ?_⟩
    rw [e]
    conv => rhs; rw [e2]
    simp [List.append_assoc]

variable (qa : Option Addr) (qc : Nat) (ss : List StA)

set_option maxRecDepth 100000 in
set_option maxHeartbeats 2000000 in
/-- seq.bySite's function literal: for every loop body that keeps what lay. -/
theorem bySite1_in (F : Fence) (n : Nat) (hF : F.fn 101) (hro : F.round = none) (hn : 1 ≤ n) (l Bs : Nat) (w0 : World) (hS : IsSt w0 qa ss) (hsl : ss.length ≤ maxLen) (J Jx : List (Bt w0) → World → Prop)
    (hY : ∀ pre (x : Bt w0) W, J pre W → pre.length < (allB ss).length → YieldAt F (n - 1) Try.prog l #[.slice x.1.a x.1.l.length x.1.c] W fun e W' =>
      (e = .returned (.bool true) ∧ J (pre ++ [x]) W' ∧ Below w0.heap.size W W') ∨ (e = .returned (.bool false) ∧ Jx (pre ++ [x]) W'))
    (W : World) (hW : Below w0.heap.size w0 W) (hBs : W.cell? ⟨Bs, 0, none⟩ = some (.slice qa ss.length qc)) (h0 : J [] W) :
    CallsIn F n Try.prog 101 #[.func (.yield l) #[] #[], .pointer (some ⟨Bs, 0, none⟩)] W fun e W' => (∃ v, e = .returned v) ∧
      ((∃ ys : List (Bt w0), ys.map Subtype.val = allB ss ∧ J ys W') ∨ (∃ pre : List (Bt w0), pre.map Subtype.val <+: allB ss ∧ Jx pre W')) := by
  have HS : Hid (IsSt w0 qa ss) := hS
  have HW : Hid (Below w0.heap.size w0 W) := hW
  clear hS hW
  unfold maxLen at hsl
  refine callsIn_of_wp Try.func101 rfl hF ?_ hro
  simp only [Try.ntmps101, List.size_toArray, List.length_cons, List.length_nil, Nat.reduceAdd, Nat.reduceSub, Array.replicate_succ, Array.replicate_zero, List.push_toArray, List.append_toArray, List.nil_append, List.cons_append]
  gi_wp2
  gi_loopw [9] (fun i wr => ∃ (k : Nat) (pre : List (Bt w0)), k ≤ ss.length ∧ i = .int .i64 k ∧ Hid (pre.map Subtype.val = allB (ss.take k)) ∧ J pre wr ∧ Hid (Below w0.heap.size w0 wr)) (fun i _ => ss.length - (intOf i).toNat)
  case atStart => exact ⟨0, [], Nat.zero_le _, rfl, rfl, h0, HW⟩
  case round =>
    obtain ⟨k, pre, hk, rfl, hpre, hJ, hB⟩ := hrel
    by_cases hlt : k < ss.length
    · obtain ⟨b, off, rfl, _, c0, hbs, hbl⟩ := HS.out k hlt
      have d0 := ext_cell hB.out c0
      have HBS : Hid (IsBs w0 (ss.getD k st0).a (ss.getD k st0).bs) := hbs
      have HT : Hid (allB (ss.take (k + 1)) = allB (ss.take k) ++ (ss.getD k st0).bs) := allB_take ss k hlt
      have HP : Hid (∀ j, j < (ss.getD k st0).bs.length → (allB (ss.take k) ++ (ss.getD k st0).bs.take j).length < (allB ss).length ∧ (allB (ss.take k) ++ (ss.getD k st0).bs.take j) ++ [(ss.getD k st0).bs.getD j b0] <+: allB ss) := fun j hj => allB_part ss k j hlt hj
      clear c0 hbs
      generalize ss.getD k st0 = s at *
      obtain ⟨sa, sc, bs⟩ := s
      simp only at d0 hbl HT HP HBS
      unfold maxLen at hbl
      gi_wp2
      gi_loopw [15] (fun i wr => ∃ (j : Nat) (pre : List (Bt w0)), j ≤ bs.length ∧ i = .int .i64 j ∧ Hid (pre.map Subtype.val = allB (ss.take k) ++ bs.take j) ∧ J pre wr ∧ Hid (Below w0.heap.size w0 wr)) (fun i _ => bs.length - (intOf i).toNat)
      case atStart => exact ⟨0, pre, Nat.zero_le _, rfl, by show _ = _; rw [hpre.out]; simp, hJ, hB⟩
      case round =>
        obtain ⟨j, pre2, hj, rfl, hpre2, hJ2, hB2⟩ := hrel
        by_cases hlt2 : j < bs.length
        · obtain ⟨b', off', rfl, _, e0, htx, htl, htc⟩ := HBS.out j hlt2
          have f0 := ext_cell hB2.out e0
          obtain ⟨hp1, hp2⟩ := HP.out j hlt2
          have HP1 : Hid (pre2.length < (allB ss).length) := by
            show _ < _
            have h := congrArg List.length hpre2.out
            rw [List.length_map] at h
            omega
          have HTj : Hid (bs.take (j + 1) = bs.take j ++ [bs.getD j b0]) := bt_take bs j hlt2
          generalize hx : bs.getD j b0 = x at *
          obtain ⟨fn, tmps, assign, body, hy, hR⟩ := hY pre2 ⟨x, htx, htl, htc⟩ wr hJ2 HP1.out
          dsimp only at hy
          clear e0 hp1
          have HP2 : Hid ((allB (ss.take k) ++ bs.take j) ++ [x] <+: allB ss) := hp2
          clear hp2
          gi_wp2
          refine hR.mono ?_
          rintro e W3 (⟨rfl, hJ3, hk3⟩ | ⟨rfl, hJx3⟩)
          · have hB3 : Hid (Below w0.heap.size w0 W3) := hB2.out.trans hk3
            gi_wp2
            go_roundw
            case rel => exact ⟨j + 1, _, by omega, by go_num, by show _ = _; rw [List.map_append, hpre2.out, HTj.out]; simp, hJ3, hB3⟩
            case measure => simp [intOf]; omega
          · gi_wp2
            refine bodyPost_ret (results_none rfl _ _ _) rfl ?_
            exact ⟨⟨_, rfl⟩, .inr ⟨_, by rw [List.map_append, hpre2.out]; exact HP2.out, hJx3⟩⟩
        · have hjj : j = bs.length := by omega
          have hpre3 : Hid (pre2.map Subtype.val = allB (ss.take (k + 1))) := by
            show _ = _
            rw [hpre2.out, HT.out, hjj, List.take_of_length_le (Nat.le_refl _)]
          gi_wp2
          go_roundw
          case rel => exact ⟨k + 1, pre2, by omega, by go_num, hpre3, hJ2, hB2⟩
          case measure => simp [intOf]; omega
    · have hkk : k = ss.length := by omega
      have hpre3 : Hid (pre.map Subtype.val = allB ss) := by
        show _ = _
        rw [hpre.out, hkk, List.take_of_length_le (Nat.le_refl _)]
      gi_wp2
      go_end0
      exact ⟨⟨_, rfl⟩, .inl ⟨pre, hpre3.out, hJ⟩⟩
end Go.Proofs.Ytfogphljilgogaa
