/-
  Where a key lies, as a hall tells it; the innermost test of two locks.
  Conditions: those that each theorem states.
-/
import Derived.Test.YtebjkmknhpgemaaGreatHallA
import Derived.Test.YtebjkmknhpgemaaGreatTxnH
import Derived.WalkKit
import Derived.WalkSpells
import Derived.WalkLawsBesides
import Derived.Defers
import Derived.Recover
import Derived.ProofKit
import Derived.Deep.RegionHeld
import Derived.Deep.RegionHeld3
import Derived.Deep.RegionLaw
import Derived.Deep.DeepCutAuto
import Derived.Deep.QuietTactic
import Derived.BigQuiet
import Derived.Maps.AppendAt
import Derived.Lib.SliceRun
import Derived.Deep.AppendLies
namespace Go.Proofs.YtebjkmknhpgemaaGreat
open Go.RowKit

def idxI (P : Int × Bool → Bool) (L : List (Int × Bool)) : Int := if L.any P = true then ((L.findIdx P : Nat) : Int) else -1
theorem idx_step (P : Int × Bool → Bool) (L : List (Int × Bool)) (k : Nat) (h : k < L.length) (hn : ∀ p ∈ L.take k, P p = false) : (P (L.getD k (0, false)) = true → idxI P L = k) ∧ (P (L.getD k (0, false)) = false → ∀ p ∈ L.take (k + 1), P p = false) := by
  have e : L.getD k (0, false) = L[k] := by simp [List.getD, h]
  rw [e]
  constructor
  · intro hp
    unfold idxI
    rw [if_pos (List.any_eq_true.2 ⟨L[k], List.getElem_mem h, hp⟩)]
    have : L.findIdx P = k := by
      rw [List.findIdx_eq h]
      refine ⟨hp, fun j hj => ?_⟩
      exact hn _ (List.mem_take_iff_getElem.2 ⟨j, by omega, rfl⟩)
    rw [this]
  · intro hp p hm
    rw [List.take_succ_eq_append_getElem h, List.mem_append, List.mem_singleton] at hm
    rcases hm with hm | rfl
    · exact hn p hm
    · exact hp
theorem idx_none (P : Int × Bool → Bool) (L : List (Int × Bool)) (hn : ∀ p ∈ L, P p = false) : idxI P L = -1 := by
  unfold idxI
  rw [if_neg]
  intro h
  obtain ⟨p, hp, h⟩ := List.any_eq_true.1 h
  rw [hn p hp] at h
  cases h
theorem idxI_ge (P : Int × Bool → Bool) (L : List (Int × Bool)) : decide (0 ≤ idxI P L) = L.any P := by
  unfold idxI
  cases h : L.any P with
  | true => simp
  | false => simp


set_option maxRecDepth 100000 in
set_option maxHeartbeats 1000000 in
theorem index_in (L : List (Int × Bool)) (a : Option Addr) (c : Nat) (F : FuncId) (cap : Array Value) (P : Int × Bool → Bool) (w : World) (hL : IsLks w a L) (hl : L.length ≤ 100)
    (hF : ∀ v w, Sem.run Tryz.prog (callFunc F (#[v] ++ cap)) w = .ok (.enter F (#[v] ++ cap)) w)
    (hC : ∀ z b, (z, b) ∈ L → ∀ w', Below w.heap.size w w' → Calls Tryz.prog F (#[.agg #[.int .i64 z, .bool b]] ++ cap) w' fun e w'' => e = .returned (.bool (P (z, b))) ∧ Below w'.heap.size w' w'') :
    Calls Tryz.prog 171 #[.slice a L.length c, .func (.func F) #[] cap] w fun e w' => e = .returned (.int .i64 (idxI P L)) ∧ Below w.heap.size w w' := by
  have HL : Hid (IsLks w a L) := hL
  have HF : Hid (∀ v w, Sem.run Tryz.prog (callFunc F (#[v] ++ cap)) w = .ok (.enter F (#[v] ++ cap)) w) := hF
  have HC : Hid (∀ z b, (z, b) ∈ L → ∀ w', Below w.heap.size w w' → Calls Tryz.prog F (#[.agg #[.int .i64 z, .bool b]] ++ cap) w' fun e w'' => e = .returned (.bool (P (z, b))) ∧ Below w'.heap.size w' w'') := hC
  clear hL hF hC
  go_enter Tryz.func171, Tryz.ntmps171
  go_wp2
  go_loopw [5, 8] (fun _ i wr => ∃ k : Nat, k ≤ L.length ∧ i = .int .i64 k ∧ Hid (∀ p ∈ L.take k, P p = false) ∧ Hid (Below w.heap.size w wr)) (fun _ i _ => L.length - (intOf i).toNat)
  case atStart => exact ⟨0, Nat.zero_le _, rfl, (fun p hp => by simp at hp), Below.refl _ _⟩
  case round =>
    obtain ⟨k, hk, rfl, hn, hB⟩ := hrel
    by_cases hlt : k < L.length
    · obtain ⟨b, off, rfl, _, c0, c1⟩ := HL.out k hlt
      have d0 := ext_cell hB.out c0
      have d1 := ext_cell hB.out c1
      have HS : Hid ((P (L.getD k (0, false)) = true → idxI P L = k) ∧ (P (L.getD k (0, false)) = false → ∀ p ∈ L.take (k + 1), P p = false)) := idx_step P L k hlt hn.out
      have HM : Hid (L.getD k (0, false) ∈ L) := by
        show _ ∈ _
        simp [List.getD, hlt]
      clear c0 c1 hn
      generalize L.getD k (0, false) = pr at *
      obtain ⟨z, t⟩ := pr
      simp only at d0 d1
      have j1 : (0 : Int) ≤ (k : Int) := by omega
      have j2 : (k : Int) < (L.length : Int) := by omega
      go_wp2_with fail
      rw [HF.out, Oper.upon_enter]
      refine (HC.out z t HM.out _ hB.out).mono ?_
      rintro e w1 ⟨rfl, hb1⟩
      have B1 : Hid (Below w.heap.size w w1) := grow_trans hB.out hb1
      clear hb1 hB d0 d1
      cases hp : P (z, t) with
      | true =>
        have HR : Hid (idxI P L = k) := HS.out.1 hp
        clear HS
        go_wp2
        go_ret
        exact ⟨by rw [HR.out]; rfl, B1.out⟩
      | false =>
        have HR : Hid (∀ p ∈ L.take (k + 1), P p = false) := HS.out.2 hp
        clear HS
        go_wp2
        go_roundw
        case rel => exact ⟨k + 1, by omega, by go_num, HR, B1⟩
        case measure => simp [intOf]; omega
    · have HR : Hid (idxI P L = -1) := idx_none P L (by
        have h := hn.out
        rw [List.take_of_length_le (by omega)] at h
        exact h)
      clear hn
      go_wp2
      go_ret
      exact ⟨by rw [HR.out]; rfl, hB.out⟩

set_option maxRecDepth 100000 in
set_option maxHeartbeats 1000000 in
theorem contains_in (L : List (Int × Bool)) (a : Option Addr) (c : Nat) (F : FuncId) (cap : Array Value) (P : Int × Bool → Bool) (w : World) (hL : IsLks w a L) (hl : L.length ≤ 100)
    (hF : ∀ v w, Sem.run Tryz.prog (callFunc F (#[v] ++ cap)) w = .ok (.enter F (#[v] ++ cap)) w)
    (hC : ∀ z b, (z, b) ∈ L → ∀ w', Below w.heap.size w w' → Calls Tryz.prog F (#[.agg #[.int .i64 z, .bool b]] ++ cap) w' fun e w'' => e = .returned (.bool (P (z, b))) ∧ Below w'.heap.size w' w'') :
    Calls Tryz.prog 160 #[.slice a L.length c, .func (.func F) #[] cap] w fun e w' => e = .returned (.bool (L.any P)) ∧ Below w.heap.size w w' := by
  have H : Hid (Calls Tryz.prog 171 #[.slice a L.length c, .func (.func F) #[] cap] w fun e w' => e = .returned (.int .i64 (idxI P L)) ∧ Below w.heap.size w w') := index_in L a c F cap P w hL hl hF hC
  have HG : Hid (decide (0 ≤ idxI P L) = L.any P) := idxI_ge P L
  clear hL hF hC
  go_enter Tryz.func160, Tryz.ntmps160
  go_wp2_with fail
  refine H.out.mono ?_
  clear H
  rintro e w1 ⟨rfl, hb⟩
  have B : Hid (Below w.heap.size w w1) := hb
  clear hb
  go_wp2
  go_ret
  exact ⟨by rw [← HG.out]; rfl, B.out⟩



theorem at_new (W : World) (cs : Array Value) (ty : TypeId) (b j : Nat) (v : Value) (hb : b = W.heap.size) (hj : cs[j]? = some v) : (W.alloc (.cells cs ty)).cell? ⟨b, j, none⟩ = some v := by
  subst hb
  simp [hj]
theorem shE_in (sh k : Nat) (h0 : 0 < sh) (h4 : sh ≤ 4) (hk : k < 8) : shardE sh [] k = 0 ∧ shardV sh [] k = ((k % sh : Nat) : Int) := by
  have h1 : shardE sh [] k = 0 := by
    have hp : planE sh [] = 0 := by
      unfold planE chkL
      rw [if_neg (by omega)]
      rfl
    unfold shardE
    rw [hp, if_neg (by omega)]
    rfl
  refine ⟨h1, ?_⟩
  unfold shardV
  rw [if_pos h1]
  omega
theorem lk_len (x : TxA) : (lkX x).length ≤ 8 := lkTo_len _ _ 8

variable {w : World} {h sh : Nat} {l : List TxA} {S : SA} {A : HA}

set_option maxRecDepth 100000 in
set_option maxHeartbeats 1000000 in
theorem lies_at (w : World) (h p sh : Nat) (x0 : w.cell? ⟨h, 0, none⟩ = some (.pointer (some ⟨p, 0, none⟩))) (x1 : w.cell? ⟨p, 0, none⟩ = some (.int .i64 sh)) (hs0 : 0 < sh) (hs4 : sh ≤ 4) {c k : Nat} (hc : c < 8) :
    Calls Tryz.prog 113 #[.pointer (some ⟨h, 0, none⟩), .int .i64 c, .int .i64 k] w fun e w' => e = .returned (.bool (c % sh == k)) ∧ Below w.heap.size w w' := by
  obtain ⟨e1, e2⟩ := shE_in sh c hs0 hs4 hc
  have CS : Hid (Calls Tryz.prog 140 #[.agg #[.int .i64 sh, .slice none 0 0], .int .i64 c] w fun e w' => e = .returned (.tuple #[.int .i64 ((c % sh : Nat) : Int), .int .i64 0]) ∧ Below w.heap.size w w') := by
    have hh := shard_any none 0 [] sh c w (fun i hi => by simp at hi)
    rw [e1, e2] at hh
    exact hh
  have HE : Hid ((((c % sh : Nat) : Int) == (k : Int)) = (c % sh == k)) := by
    show _ = _
    rw [Bool.eq_iff_iff, beq_iff_eq, beq_iff_eq]
    omega
  clear e1 e2
  generalize c % sh = r at *
  go_enter Tryz.func113, Tryz.ntmps113
  go_wp2_with fail
  refine CS.out.mono ?_
  clear CS
  rintro e w1 ⟨rfl, hb⟩
  have B1 : Hid (Below w.heap.size w w1) := hb
  clear hb x0 x1
  go_wp2_with fail
  refine (gotInt_ok _ 0 rfl _).mono ?_
  rintro e w2 ⟨rfl, hw2⟩
  have B2 : Hid (Below w.heap.size w w2) := by rw [hw2]; exact grow_alloc B1.out _
  clear hw2 B1
  go_wp2
  go_ret
  exact ⟨by rw [HE.out]; rfl, B2.out⟩

theorem lies_any (H : Hall w h sh l S A) {c k : Nat} (hc : c < 8) :
    Calls Tryz.prog 113 #[.pointer (some ⟨h, 0, none⟩), .int .i64 c, .int .i64 k] w fun e w' => e = .returned (.bool (c % sh == k)) ∧ Below w.heap.size w w' := lies_at w h A.p sh H.h0 H.p0 H.s0 H.s4 hc

set_option maxRecDepth 100000 in
theorem cl162 (z y : Int) (b t : Bool) (p : Nat) (w : World) (h0 : w.cell? ⟨p, 0, none⟩ = some (.int .i64 y)) (h1 : w.cell? ⟨p, 1, none⟩ = some (.bool t)) :
    Calls Tryz.prog 162 #[.agg #[.int .i64 z, .bool b], .pointer (some ⟨p, 0, none⟩)] w fun e w' => e = .returned (.bool (y == z && (t || b))) ∧ Below w.heap.size w w' := by
  have hU : Hid (Below w.heap.size w (w.alloc (.cells #[.int .i64 z, .bool b] 134))) := grow_alloc (Below.refl _ _) _
  have d0 := ext_cell hU.out h0
  have d1 := ext_cell hU.out h1
  have e0 : (w.alloc (.cells #[.int .i64 z, .bool b] 134)).cell? ⟨w.heap.size, 0, none⟩ = some (.int .i64 z) := by simp
  have e1 : (w.alloc (.cells #[.int .i64 z, .bool b] 134)).cell? ⟨w.heap.size, 1, none⟩ = some (.bool b) := by simp
  clear h0 h1
  go_enter Tryz.func162, Tryz.ntmps162
  cases hq : (y == z)
  · go_wp2
    go_ret
    exact ⟨rfl, hU.out⟩
  · cases t
    · go_wp2
      go_ret
      exact ⟨rfl, hU.out⟩
    · go_wp2
      go_ret
      exact ⟨rfl, hU.out⟩
end Go.Proofs.YtebjkmknhpgemaaGreat
