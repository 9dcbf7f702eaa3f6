/-
  locks: who is granted a key in its queue (granted), and the library's IndexFunc and ContainsFunc with it.
  Conditions: the queues can be read.
-/
import Derived.Test.YtikolifbljnokaaGreatLocksA
import Derived.Test.YtikolifbljnokaaGreatGraphD
import Derived.WalkKit
import Derived.WalkSpells
import Derived.WalkLawsBesides
import Derived.ProofKit
import Derived.Deep.RegionHeld
import Derived.Deep.RegionHeld3
import Derived.BigQuiet
import Derived.Deep.RegionLaw
import Derived.Deep.DeepCutAuto
import Derived.IntWalk
namespace Go.Proofs.YtikolifbljnokaaGreat
open Go.RowKit

set_option maxRecDepth 100000 in
theorem doneError_any (la ba : Option Addr) (lc bc k j : Nat) (w : World) :
    Calls Tryz.prog 58 #[.slice la k lc, .slice ba j bc] w fun e w' => e = .returned (.int .i64 (if j = k then 0 else 1)) ∧ Below w.heap.size w w' := by
  by_cases h : j = k
  · subst h
    rw [if_pos rfl]
    have h' : ((j : Int) != (j : Int)) = false := by simp
    go_enter Tryz.func58, Tryz.ntmps58
    go_wp2
    go_ret
    exact ⟨rfl, Below.refl _ _⟩
  · rw [if_neg h]
    have h' : ((j : Int) != (k : Int)) = true := by simp; omega
    clear h
    go_enter Tryz.func58, Tryz.ntmps58
    go_wp2
    go_ret
    exact ⟨rfl, Below.refl _ _⟩

def keyE (k : Int) : Int := if k < 0 ∨ 8 ≤ k then 3 else 0
set_option maxRecDepth 100000 in
set_option maxHeartbeats 1000000 in
theorem lkLocksOf_ok (x : TxA) (w : World) (hx : IsX w x) (cx : chkX x = 0) :
    Calls Tryz.prog 74 #[.agg #[.slice x.ra x.rs.length x.rc, .slice x.ga x.gs.length x.gc, .slice x.sa x.ss.length x.sc]] w fun e w' => ∃ a c, e = .returned (.slice a (lkTo x.rs (keysOf x.ss) 8).length c) ∧ IsLks w' a (lkTo x.rs (keysOf x.ss) 8) ∧ Below w.heap.size w w' := by
  obtain ⟨ra, ga, sa, rc, gc, sc, rs, gs, ss⟩ := x
  have HX : Hid (IsTx w ra ga sa rs gs ss) := hx.t
  have L1 : Hid (lksOf rs gs ss = lkTo rs (keysOf ss) 8) := if_pos cx
  have C1 : Hid (chkTx rs gs ss = 0) := cx
  clear hx cx
  simp only
  have g1 : Below w.heap.size w (w.alloc (.cells #[.slice ra rs.length rc, .slice ga gs.length gc, .slice sa ss.length sc] 38)) := grow_alloc (Below.refl _ _) _
  go_enter Tryz.func74, Tryz.ntmps74
  go_wp2_with fail
  refine (locks_any ra ga sa rc gc sc rs gs ss _ (HX.out.below g1)).mono ?_
  rintro e w1 ⟨a1, c1, rfl, hL1, hb1⟩
  rw [L1.out] at hL1 ⊢
  rw [C1.out]
  go_wp2_with fail
  refine (gotLocks_ok a1 _ c1 _).mono ?_
  rintro e w2 ⟨rfl, hw2⟩
  have hb2 : Below w1.heap.size w1 w2 := by rw [hw2]; exact grow_alloc (Below.refl _ _) _
  have HL1 : Hid (IsLks w2 a1 (lkTo rs (keysOf ss) 8)) := hL1.below hb2
  have B2 : Hid (Below w.heap.size w w2) := grow_trans g1 (grow_trans hb1 hb2)
  clear hb1 hb2 hw2 hL1 g1
  go_wp2
  go_ret
  exact ⟨a1, c1, rfl, HL1.out, B2.out⟩

set_option maxRecDepth 100000 in
theorem cl103 (z n : Int) (b : Bool) (p : Nat) (w : World) (hp : w.cell? ⟨p, 0, none⟩ = some (.int .i64 n)) : Calls Tryz.prog 93 #[.agg #[.int .i64 z, .bool b], .pointer (some ⟨p, 0, none⟩)] w fun e w' => e = .returned (.bool (z == n)) ∧ Below w.heap.size w w' := by
  have g1 : Below w.heap.size w (w.alloc (.cells #[.int .i64 z, .bool b] 109)) := grow_alloc (Below.refl _ _) _
  have p1 := ext_cell g1 hp
  have q0 : (w.alloc (.cells #[.int .i64 z, .bool b] 109)).cell? ⟨w.heap.size, 0, none⟩ = some (.int .i64 z) := by simp
  clear hp
  go_enter Tryz.func93, Tryz.ntmps93
  go_upto_region 1 with fail
  generalize w.alloc (.cells #[.int .i64 z, .bool b] 109) = V at *
  go_wp2
  go_ret
  exact ⟨rfl, g1⟩
set_option maxRecDepth 100000 in
theorem cl105 (z : Int) (b : Bool) (w : World) : Calls Tryz.prog 95 #[.agg #[.int .i64 z, .bool b]] w fun e w' => e = .returned (.bool b) ∧ Below w.heap.size w w' := by
  go_enter Tryz.func95, Tryz.ntmps95
  go_wp2
  go_ret
  exact ⟨rfl, grow_alloc (Below.refl _ _) _⟩

/-- The first that is so; -1, if none is. -/
def idxI (P : Int × Bool → Bool) (L : List (Int × Bool)) : Int := if L.any P = true then ((L.findIdx P : Nat) : Int) else -1
theorem idx_step (P : Int × Bool → Bool) (L : List (Int × Bool)) (k : Nat) (h : k < L.length) (hn : ∀ p ∈ L.take k, P p = false) : (P (L.getD k (0, false)) = true → idxI P L = k) ∧ (P (L.getD k (0, false)) = false → ∀ p ∈ L.take (k + 1), P p = false) := by
  have e : L.getD k (0, false) = L[k] := by simp [List.getD, h]
  rw [e]
  constructor
  · intro hp
    unfold idxI
    rw [if_pos (List.any_eq_true.2 ⟨L[k], List.getElem_mem h, hp⟩)]
    have : L.findIdx P = k := by
      rw [List.findIdx_eq h]
      refine ⟨hp, fun j hj => ?_⟩
      exact hn _ (List.mem_take_iff_getElem.2 ⟨j, by omega, rfl⟩)
    rw [this]
  · intro hp p hm
    rw [List.take_succ_eq_append_getElem h, List.mem_append, List.mem_singleton] at hm
    rcases hm with hm | rfl
    · exact hn p hm
    · exact hp
theorem idx_none (P : Int × Bool → Bool) (L : List (Int × Bool)) (hn : ∀ p ∈ L, P p = false) : idxI P L = -1 := by
  unfold idxI
  rw [if_neg]
  intro h
  obtain ⟨p, hp, h⟩ := List.any_eq_true.1 h
  rw [hn p hp] at h
  cases h
theorem idxI_ge (P : Int × Bool → Bool) (L : List (Int × Bool)) : decide (0 ≤ idxI P L) = L.any P := by
  unfold idxI
  cases h : L.any P with
  | true => simp
  | false => simp

set_option maxRecDepth 100000 in
set_option maxHeartbeats 1000000 in
theorem index102_any (L : List (Int × Bool)) (a : Option Addr) (c : Nat) (F : FuncId) (cap : Array Value) (P : Int × Bool → Bool) (w : World) (hL : IsLks w a L) (hl : L.length ≤ 100)
    (hF : ∀ v w, Sem.run Tryz.prog (callFunc F (#[v] ++ cap)) w = .ok (.enter F (#[v] ++ cap)) w)
    (hC : ∀ z b w', Below w.heap.size w w' → Calls Tryz.prog F (#[.agg #[.int .i64 z, .bool b]] ++ cap) w' fun e w'' => e = .returned (.bool (P (z, b))) ∧ Below w'.heap.size w' w'') :
    Calls Tryz.prog 92 #[.slice a L.length c, .func (.func F) #[] cap] w fun e w' => e = .returned (.int .i64 (idxI P L)) ∧ Below w.heap.size w w' := by
  have HL : Hid (IsLks w a L) := hL
  have HF : Hid (∀ v w, Sem.run Tryz.prog (callFunc F (#[v] ++ cap)) w = .ok (.enter F (#[v] ++ cap)) w) := hF
  have HC : Hid (∀ z b w', Below w.heap.size w w' → Calls Tryz.prog F (#[.agg #[.int .i64 z, .bool b]] ++ cap) w' fun e w'' => e = .returned (.bool (P (z, b))) ∧ Below w'.heap.size w' w'') := hC
  clear hL hF hC
  go_enter Tryz.func92, Tryz.ntmps92
  go_wp2
  go_loopw [5, 8] (fun _ i wr => ∃ k : Nat, k ≤ L.length ∧ i = .int .i64 k ∧ Hid (∀ p ∈ L.take k, P p = false) ∧ Hid (Below w.heap.size w wr)) (fun _ i _ => L.length - (intOf i).toNat)
  case atStart => exact ⟨0, Nat.zero_le _, rfl, (fun p hp => by simp at hp), Below.refl _ _⟩
  case round =>
    obtain ⟨k, hk, rfl, hn, hB⟩ := hrel
    by_cases hlt : k < L.length
    · obtain ⟨b, off, rfl, _, c0, c1⟩ := HL.out k hlt
      have d0 := ext_cell hB.out c0
      have d1 := ext_cell hB.out c1
      have HS : Hid ((P (L.getD k (0, false)) = true → idxI P L = k) ∧ (P (L.getD k (0, false)) = false → ∀ p ∈ L.take (k + 1), P p = false)) := idx_step P L k hlt hn.out
      clear c0 c1 hn
      generalize L.getD k (0, false) = pr at *
      obtain ⟨z, t⟩ := pr
      simp only at d0 d1
      have j1 : (0 : Int) ≤ (k : Int) := by omega
      have j2 : (k : Int) < (L.length : Int) := by omega
      go_wp2_with fail
      rw [HF.out, Oper.upon_enter]
      refine (HC.out z t _ hB.out).mono ?_
      rintro e w1 ⟨rfl, hb1⟩
      have B1 : Hid (Below w.heap.size w w1) := grow_trans hB.out hb1
      clear hb1 hB d0 d1
      cases hp : P (z, t) with
      | true =>
        have HR : Hid (idxI P L = k) := HS.out.1 hp
        clear HS
        go_wp2
        go_ret
        exact ⟨by rw [HR.out]; rfl, B1.out⟩
      | false =>
        have HR : Hid (∀ p ∈ L.take (k + 1), P p = false) := HS.out.2 hp
        clear HS
        go_wp2
        go_roundw
        case rel => exact ⟨k + 1, by omega, by go_num, HR, B1⟩
        case measure => simp [intOf]; omega
    · have HR : Hid (idxI P L = -1) := idx_none P L (by
        have h := hn.out
        rw [List.take_of_length_le (by omega)] at h
        exact h)
      clear hn
      go_wp2
      go_ret
      exact ⟨by rw [HR.out]; rfl, hB.out⟩

set_option maxRecDepth 100000 in
set_option maxHeartbeats 1000000 in
theorem index101_any (L : List (Int × Bool)) (a : Option Addr) (c : Nat) (F : FuncId) (cap : Array Value) (P : Int × Bool → Bool) (w : World) (hL : IsLks w a L) (hl : L.length ≤ 100)
    (hF : ∀ v w, Sem.run Tryz.prog (callFunc F (#[v] ++ cap)) w = .ok (.enter F (#[v] ++ cap)) w)
    (hC : ∀ z b w', Below w.heap.size w w' → Calls Tryz.prog F (#[.agg #[.int .i64 z, .bool b]] ++ cap) w' fun e w'' => e = .returned (.bool (P (z, b))) ∧ Below w'.heap.size w' w'') :
    Calls Tryz.prog 91 #[.slice a L.length c, .func (.func F) #[] cap] w fun e w' => e = .returned (.int .i64 (idxI P L)) ∧ Below w.heap.size w w' := by
  have HL : Hid (IsLks w a L) := hL
  have HF : Hid (∀ v w, Sem.run Tryz.prog (callFunc F (#[v] ++ cap)) w = .ok (.enter F (#[v] ++ cap)) w) := hF
  have HC : Hid (∀ z b w', Below w.heap.size w w' → Calls Tryz.prog F (#[.agg #[.int .i64 z, .bool b]] ++ cap) w' fun e w'' => e = .returned (.bool (P (z, b))) ∧ Below w'.heap.size w' w'') := hC
  clear hL hF hC
  go_enter Tryz.func91, Tryz.ntmps91
  go_wp2
  go_loopw [5, 8] (fun _ i wr => ∃ k : Nat, k ≤ L.length ∧ i = .int .i64 k ∧ Hid (∀ p ∈ L.take k, P p = false) ∧ Hid (Below w.heap.size w wr)) (fun _ i _ => L.length - (intOf i).toNat)
  case atStart => exact ⟨0, Nat.zero_le _, rfl, (fun p hp => by simp at hp), Below.refl _ _⟩
  case round =>
    obtain ⟨k, hk, rfl, hn, hB⟩ := hrel
    by_cases hlt : k < L.length
    · obtain ⟨b, off, rfl, _, c0, c1⟩ := HL.out k hlt
      have d0 := ext_cell hB.out c0
      have d1 := ext_cell hB.out c1
      have HS : Hid ((P (L.getD k (0, false)) = true → idxI P L = k) ∧ (P (L.getD k (0, false)) = false → ∀ p ∈ L.take (k + 1), P p = false)) := idx_step P L k hlt hn.out
      clear c0 c1 hn
      generalize L.getD k (0, false) = pr at *
      obtain ⟨z, t⟩ := pr
      simp only at d0 d1
      have j1 : (0 : Int) ≤ (k : Int) := by omega
      have j2 : (k : Int) < (L.length : Int) := by omega
      go_wp2_with fail
      rw [HF.out, Oper.upon_enter]
      refine (HC.out z t _ hB.out).mono ?_
      rintro e w1 ⟨rfl, hb1⟩
      have B1 : Hid (Below w.heap.size w w1) := grow_trans hB.out hb1
      clear hb1 hB d0 d1
      cases hp : P (z, t) with
      | true =>
        have HR : Hid (idxI P L = k) := HS.out.1 hp
        clear HS
        go_wp2
        go_ret
        exact ⟨by rw [HR.out]; rfl, B1.out⟩
      | false =>
        have HR : Hid (∀ p ∈ L.take (k + 1), P p = false) := HS.out.2 hp
        clear HS
        go_wp2
        go_roundw
        case rel => exact ⟨k + 1, by omega, by go_num, HR, B1⟩
        case measure => simp [intOf]; omega
    · have HR : Hid (idxI P L = -1) := idx_none P L (by
        have h := hn.out
        rw [List.take_of_length_le (by omega)] at h
        exact h)
      clear hn
      go_wp2
      go_ret
      exact ⟨by rw [HR.out]; rfl, hB.out⟩

set_option maxRecDepth 100000 in
set_option maxHeartbeats 1000000 in
theorem contains104_any (L : List (Int × Bool)) (a : Option Addr) (c : Nat) (F : FuncId) (cap : Array Value) (P : Int × Bool → Bool) (w : World) (hL : IsLks w a L) (hl : L.length ≤ 100)
    (hF : ∀ v w, Sem.run Tryz.prog (callFunc F (#[v] ++ cap)) w = .ok (.enter F (#[v] ++ cap)) w)
    (hC : ∀ z b w', Below w.heap.size w w' → Calls Tryz.prog F (#[.agg #[.int .i64 z, .bool b]] ++ cap) w' fun e w'' => e = .returned (.bool (P (z, b))) ∧ Below w'.heap.size w' w'') :
    Calls Tryz.prog 94 #[.slice a L.length c, .func (.func F) #[] cap] w fun e w' => e = .returned (.bool (L.any P)) ∧ Below w.heap.size w w' := by
  have H : Hid (Calls Tryz.prog 92 #[.slice a L.length c, .func (.func F) #[] cap] w fun e w' => e = .returned (.int .i64 (idxI P L)) ∧ Below w.heap.size w w') := index102_any L a c F cap P w hL hl hF hC
  have HG : Hid (decide (0 ≤ idxI P L) = L.any P) := idxI_ge P L
  clear hL hF hC
  go_enter Tryz.func94, Tryz.ntmps94
  go_wp2_with fail
  refine H.out.mono ?_
  clear H
  rintro e w1 ⟨rfl, hb⟩
  have B : Hid (Below w.heap.size w w1) := hb
  clear hb
  go_wp2
  go_ret
  exact ⟨by rw [← HG.out]; rfl, B.out⟩

set_option maxRecDepth 100000 in
set_option maxHeartbeats 1000000 in
theorem contains87_any (L : List (Int × Bool)) (a : Option Addr) (c : Nat) (F : FuncId) (cap : Array Value) (P : Int × Bool → Bool) (w : World) (hL : IsLks w a L) (hl : L.length ≤ 100)
    (hF : ∀ v w, Sem.run Tryz.prog (callFunc F (#[v] ++ cap)) w = .ok (.enter F (#[v] ++ cap)) w)
    (hC : ∀ z b w', Below w.heap.size w w' → Calls Tryz.prog F (#[.agg #[.int .i64 z, .bool b]] ++ cap) w' fun e w'' => e = .returned (.bool (P (z, b))) ∧ Below w'.heap.size w' w'') :
    Calls Tryz.prog 75 #[.slice a L.length c, .func (.func F) #[] cap] w fun e w' => e = .returned (.bool (L.any P)) ∧ Below w.heap.size w w' := by
  have H : Hid (Calls Tryz.prog 91 #[.slice a L.length c, .func (.func F) #[] cap] w fun e w' => e = .returned (.int .i64 (idxI P L)) ∧ Below w.heap.size w w') := index101_any L a c F cap P w hL hl hF hC
  have HG : Hid (decide (0 ≤ idxI P L) = L.any P) := idxI_ge P L
  clear hL hF hC
  go_enter Tryz.func75, Tryz.ntmps75
  go_wp2_with fail
  refine H.out.mono ?_
  clear H
  rintro e w1 ⟨rfl, hb⟩
  have B : Hid (Below w.heap.size w w1) := hb
  clear hb
  go_wp2
  go_ret
  exact ⟨by rw [← HG.out]; rfl, B.out⟩

/-- A queue, as it lies in memory. -/
def qI (q : List (Nat × Bool)) : List (Int × Bool) := q.map fun p => ((p.1 : Int), p.2)
theorem qI_len (q : List (Nat × Bool)) : (qI q).length = q.length := List.length_map _
theorem qI_at (q : List (Nat × Bool)) (i : Nat) : ((qI q).getD i (0, false)).2 = (q.getD i (0, false)).2 := by
  unfold qI
  rw [List.getD_eq_getElem?_getD, List.getD_eq_getElem?_getD, List.getElem?_map]
  cases q[i]? <;> rfl
theorem qI_idx : ∀ (q : List (Nat × Bool)) (n : Nat), (qI q).findIdx (fun p => p.1 == (n : Int)) = q.findIdx (fun p => p.1 == n)
  | [], n => rfl
  | p :: t, n => by
    have ih := qI_idx t n
    have e : qI (p :: t) = ((p.1 : Int), p.2) :: qI t := rfl
    have e2 : ((p.1 : Int) == (n : Int)) = (p.1 == n) := by
      rw [Bool.eq_iff_iff, beq_iff_eq, beq_iff_eq]
      omega
    rw [e, List.findIdx_cons, List.findIdx_cons, ih]
    simp only [e2]
theorem qI_take (q : List (Nat × Bool)) (i : Nat) : ((qI q).take i).any Prod.snd = (q.take i).any Prod.snd := by
  unfold qI
  rw [← List.map_take, List.any_map]
  rfl
theorem isLks_take {w : World} {a : Option Addr} {L : List (Int × Bool)} (h : IsLks w a L) (i : Nat) (hi : i ≤ L.length) : IsLks w a (L.take i) := fun j hj => by
  rw [List.length_take] at hj
  obtain ⟨b, off, ha, hlt, c0, c1⟩ := h j (by omega)
  have e : (L.take i).getD j (0, false) = L.getD j (0, false) := by
    rw [List.getD_eq_getElem?_getD, List.getD_eq_getElem?_getD, List.getElem?_take_of_lt (by omega)]
  rw [e]
  exact ⟨b, off, ha, hlt, c0, c1⟩

set_option maxRecDepth 100000 in
set_option maxHeartbeats 2000000 in
theorem granted_any (q : List (Nat × Bool)) (n : Nat) (a : Option Addr) (c : Nat) (w : World) (hL : IsLks w a (qI q)) (hl : q.length ≤ 100) (hc : q.length ≤ c) (hm : ∃ p ∈ q, p.1 = n) :
    Calls Tryz.prog 77 #[.slice a q.length c, .int .i64 n] w fun e w' => e = .returned (.bool (grantedV q n)) ∧ Below w.heap.size w w' := by
  have g1 : Below w.heap.size w (w.alloc (.cells #[.int .i64 n] 3)) := grow_alloc (Below.refl _ _) _
  have p0 : (w.alloc (.cells #[.int .i64 n] 3)).cell? ⟨w.heap.size, 0, none⟩ = some (.int .i64 n) := by simp
  have hany : (qI q).any (fun p => p.1 == (n : Int)) = true := by
    obtain ⟨p, hp, e⟩ := hm
    rw [List.any_eq_true]
    exact ⟨((p.1 : Int), p.2), List.mem_map.2 ⟨p, hp, rfl⟩, by simp [e]⟩
  have hidx : idxI (fun p => p.1 == (n : Int)) (qI q) = ((q.findIdx fun p => p.1 == n : Nat) : Int) := by
    unfold idxI
    rw [if_pos hany, qI_idx]
  have hat : (q.findIdx fun p => p.1 == n) < q.length := by
    refine List.findIdx_lt_length_of_exists ?_
    obtain ⟨p, hp, e⟩ := hm
    exact ⟨p, hp, by simp [e]⟩
  have H102 : Hid (Calls Tryz.prog 92 #[.slice a q.length c, .func (.func 93) #[] #[.pointer (some ⟨w.heap.size, 0, none⟩)]] (w.alloc (.cells #[.int .i64 n] 3)) fun e w' => e = .returned (.int .i64 ((q.findIdx fun p => p.1 == n : Nat) : Int)) ∧ Below w.heap.size w w') := by
    have h := index102_any (qI q) a c 93 #[.pointer (some ⟨w.heap.size, 0, none⟩)] (fun p => p.1 == (n : Int)) (w.alloc (.cells #[.int .i64 n] 3)) (hL.below g1) (by rw [qI_len]; exact hl) (fun _ _ => rfl) (fun z b w' hb => cl103 z n b _ w' (ext_cell hb p0))
    rw [qI_len, hidx] at h
    exact h.mono fun e w' ⟨h1, h2⟩ => ⟨h1, grow_trans g1 h2⟩
  have HV : Hid (grantedV q n = if (q.getD (q.findIdx fun p => p.1 == n) (0, false)).2 then (q.findIdx fun p => p.1 == n) == 0 else !(q.take (q.findIdx fun p => p.1 == n)).any Prod.snd) := rfl
  have HL : Hid (IsLks w a (qI q)) := hL
  have hmf : ∀ (fn : Fn) (first cap : Array Value) (w : World), (Instr.makeFunc fn first cap).run Tryz.prog w = .ok (.func fn first cap) w := fun _ _ _ _ => rfl
  clear hL hm hany hidx g1 p0
  have HAT : Hid (∀ i, ((qI q).getD i (0, false)).2 = (q.getD i (0, false)).2) := qI_at q
  have HTK : Hid (∀ i, ((qI q).take i).any Prod.snd = (q.take i).any Prod.snd) := qI_take q
  generalize (q.findIdx fun p => p.1 == n) = at0 at *
  have H104 : Hid (∀ w', Below w.heap.size w w' → Calls Tryz.prog 94 #[.slice a at0 c, .func (.func 95) #[] #[]] w' fun e w'' => e = .returned (.bool ((q.take at0).any Prod.snd)) ∧ Below w'.heap.size w' w'') := fun w' hb => by
    have hll : ((qI q).take at0).length = at0 := by rw [List.length_take, qI_len]; omega
    have h := contains104_any ((qI q).take at0) a c 95 #[] Prod.snd w' (isLks_take (HL.out.below hb) at0 (by rw [qI_len]; omega)) (by rw [hll]; omega) (fun _ _ => rfl) (fun z b w' _ => cl105 z b w')
    rw [hll, HTK.out] at h
    exact h
  obtain ⟨b, off, rfl, _, c0, c1⟩ := HL.out at0 (by rw [qI_len]; exact hat)
  rw [HAT.out] at c1
  generalize ((qI q).getD at0 (0, false)).1 = z at *
  have j1 : (0 : Int) ≤ (at0 : Int) := by omega
  have j2 : (at0 : Int) < (q.length : Int) := by omega
  have j3 : at0 ≤ c := by omega
  have j4 : at0 ≤ q.length := by omega
  have j5 : (at0 : Int) ≤ (c : Int) := by omega
  clear HAT HTK HL
  go_enter Tryz.func77, Tryz.ntmps77
  go_wp2_with fail
  refine H102.out.mono ?_
  clear H102
  rintro e w1 ⟨rfl, hb1⟩
  have d0 := ext_cell hb1 c0
  have d1 := ext_cell hb1 c1
  have B1 : Hid (Below w.heap.size w w1) := hb1
  clear hb1 c0 c1
  generalize (q.getD at0 (0, false)).2 = wb at *
  cases wb with
  | true =>
    have HR : Hid (grantedV q n = (at0 == 0)) := by
      show _ = _
      rw [HV.out]; rfl
    have h0 : ((at0 : Int) == 0) = (at0 == 0) := by
      rw [Bool.eq_iff_iff, beq_iff_eq, beq_iff_eq]
      omega
    clear HV
    go_wp2
    go_ret
    exact ⟨by rw [HR.out, ← h0]; rfl, B1.out⟩
  | false =>
    have HR : Hid (grantedV q n = !(q.take at0).any Prod.snd) := by
      show _ = _
      rw [HV.out]; rfl
    clear HV
    go_wp2_with fail
    refine (H104.out _ B1.out).mono ?_
    rintro e w2 ⟨rfl, hb2⟩
    have B2 : Hid (Below w.heap.size w w2) := grow_trans B1.out hb2
    clear hb2 d0 d1
    generalize (q.take at0).any Prod.snd = r at *
    go_wp2
    go_ret
    exact ⟨by rw [HR.out]; rfl, B2.out⟩
end Go.Proofs.YtikolifbljnokaaGreat
