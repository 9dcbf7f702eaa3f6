/-
  
  Conditions: those that each theorem states.
-/
import Derived.Test.YtebjkmknhpgemaaGreatUDocA
set_option maxRecDepth 100000
namespace Go.Proofs.YtebjkmknhpgemaaGreat
open Go.RowKit
def IsBR (lo : Nat) (w : World) (a : Option Addr) (n sh : Nat) (F : Nat → Nat → Bool) : Prop :=
 ∀ i, i < n → ∃ b off b' off' c', a = some ⟨b, off, none⟩ ∧ (lo ≤ b ∧ b < w.heap.size) ∧ (lo ≤ b' ∧ b' < w.heap.size) ∧ w.cell? ⟨b, off + i, none⟩ = some (.slice (some ⟨b', off', none⟩) sh c') ∧ ∀ k, k < sh → w.cell? ⟨b', off' + k, none⟩ = some (.bool (F i k))
def IsIR (lo : Nat) (w : World) (a : Option Addr) (l : List TxA) (V : List (List Int)) : Prop :=
 ∀ i, i < l.length → ∃ b off a' c', a = some ⟨b, off, none⟩ ∧ (lo ≤ b ∧ b < w.heap.size) ∧ w.cell? ⟨b, off + i, none⟩ = some (.slice a' (gX l i).rs.length c') ∧ (V.getD i []).length = (gX l i).rs.length ∧ IsInts w a' (V.getD i []) ∧ (∀ ad, a' = some ad → lo ≤ ad.block) ∧ (a' = none → c' = 0)
def iH (x : TxA) : List (Int × Bool) := aZ x.rs (aI x.ss) 8
def IsLR (lo : Nat) (w : World) (a : Option Addr) (l : List TxA) : Prop :=
 ∀ i, i < l.length → ∃ b off a' c', a = some ⟨b, off, none⟩ ∧ (lo ≤ b ∧ b < w.heap.size) ∧ w.cell? ⟨b, off + i, none⟩ = some (.slice a' (iH (gX l i)).length c') ∧ IsLks w a' (iH (gX l i)) ∧ (∀ ad, a' = some ad → lo ≤ ad.block)
theorem IsBR.below {lo : Nat} {w w' : World} {a : Option Addr} {n sh : Nat} {F : Nat → Nat → Bool} (h : IsBR lo w a n sh F) (hb : Below w.heap.size w w') : IsBR lo w' a n sh F := fun i hi => by
 obtain ⟨b, off, b', off', c', e, h1, h2, h3, h4⟩ := h i hi
 exact ⟨b, off, b', off', c', e, ⟨h1.1, Nat.lt_of_lt_of_le h1.2 hb.size⟩, ⟨h2.1, Nat.lt_of_lt_of_le h2.2 hb.size⟩, aA hb h3, fun k hk => aA hb (h4 k hk)⟩
theorem IsIR.below {lo : Nat} {w w' : World} {a : Option Addr} {l : List TxA} {V : List (List Int)} (h : IsIR lo w a l V) (hb : Below w.heap.size w w') : IsIR lo w' a l V := fun i hi => by
 obtain ⟨b, off, a', c', e, h1, h2, h3, h4, h5⟩ := h i hi
 exact ⟨b, off, a', c', e, ⟨h1.1, Nat.lt_of_lt_of_le h1.2 hb.size⟩, aA hb h2, h3, h4.below hb, h5⟩
theorem IsLR.below {lo : Nat} {w w' : World} {a : Option Addr} {l : List TxA} (h : IsLR lo w a l) (hb : Below w.heap.size w w') : IsLR lo w' a l := fun i hi => by
 obtain ⟨b, off, a', c', e, h1, h2, h3, h4⟩ := h i hi
 exact ⟨b, off, a', c', e, ⟨h1.1, Nat.lt_of_lt_of_le h1.2 hb.size⟩, aA hb h2, h3.below hb, h4⟩
structure HA where
 p : Nat
 la : Option Addr
 sa : Option Addr
 ra : Option Addr
 wa : Option Addr
 va : Option Addr
 pa : Option Addr
 qa : Option Addr
 ka : Option Addr
 lc : Nat
 sc : Nat
 rc : Nat
 wc : Nat
 vc : Nat
 pc : Nat
 qc : Nat
 kc : Nat
structure Hall (w : World) (h sh : Nat) (l : List TxA) (S : SA) (A : HA) : Prop where
 h0 : w.cell? ⟨h, 0, none⟩ = some (.pointer (some ⟨A.p, 0, none⟩))
 h1 : w.cell? ⟨h, 1, none⟩ = some (.slice A.sa 8 A.sc)
 h2 : w.cell? ⟨h, 2, none⟩ = some (.slice A.ra l.length A.rc)
 h3 : w.cell? ⟨h, 3, none⟩ = some (.slice A.wa l.length A.wc)
 h4 : w.cell? ⟨h, 4, none⟩ = some (.slice A.va l.length A.vc)
 h5 : w.cell? ⟨h, 5, none⟩ = some (.slice A.pa l.length A.pc)
 h6 : w.cell? ⟨h, 6, none⟩ = some (.slice A.qa l.length A.qc)
 h7 : w.cell? ⟨h, 7, none⟩ = some (.slice A.ka l.length A.kc)
 p0 : w.cell? ⟨A.p, 0, none⟩ = some (.int .i64 sh)
 p1 : w.cell? ⟨A.p, 1, none⟩ = some (.slice A.la l.length A.lc)
 tx : IsTxs w A.la l
 s8 : S.st.length = 8
 st : IsInts w A.sa S.st
 rd : IsBR 0 w A.ra l.length sh (bW S.rd)
 wr : IsBR 0 w A.wa l.length sh (bW S.wr)
 vs : IsIR 0 w A.va l S.vs
 pt : IsBR (h + 1) w A.pa l.length sh (fun n k => fE sh (gX l n) k)
 ac : IsBR (h + 1) w A.qa l.length sh (fun n k => iW sh (gX l n) k)
 lk : IsLR (h + 1) w A.ka l
 s0 : 0 < sh
 s4 : sh ≤ 4
 l8 : l.length ≤ 8
theorem Hall.below {w w' : World} {h sh : Nat} {l : List TxA} {S : SA} {A : HA} (H : Hall w h sh l S A) (hb : Below w.heap.size w w') : Hall w' h sh l S A :=
 ⟨aA hb H.h0, aA hb H.h1, aA hb H.h2, aA hb H.h3, aA hb H.h4, aA hb H.h5, aA hb H.h6, aA hb H.h7, aA hb H.p0, aA hb H.p1, H.tx.below hb, H.s8, H.st.below hb, H.rd.below hb, H.wr.below hb, H.vs.below hb, H.pt.below hb, H.ac.below hb, H.lk.below hb, H.s0, H.s4, H.l8⟩
theorem nE {lo : Nat} {w : World} {h j : Nat} {a : Option Addr} {N c sh : Nat} {F : Nat → Nat → Bool} (hc : w.cell? ⟨h, j, none⟩ = some (.slice a N c)) (H : IsBR lo w a N sh F) {n k : Nat} (hn : n < N) (hk : k < sh) :
  ∃ b off b' off' c', w.cell? ⟨h, j, none⟩ = some (.slice (some ⟨b, off, none⟩) N c) ∧ w.cell? ⟨b, off + n, none⟩ = some (.slice (some ⟨b', off', none⟩) sh c') ∧ w.cell? ⟨b', off' + k, none⟩ = some (.bool (F n k)) := by
 obtain ⟨b, off, b', off', c', e, _, _, h3, h4⟩ := H n hn
 exact ⟨b, off, b', off', c', by rw [hc, e], h3, h4 k hk⟩
theorem mN {lo : Nat} {w : World} {h j : Nat} {a : Option Addr} {N c sh : Nat} {F : Nat → Nat → Bool} (hc : w.cell? ⟨h, j, none⟩ = some (.slice a N c)) (H : IsBR lo w a N sh F) {n : Nat} (hn : n < N) :
  ∃ b off b' off' c', w.cell? ⟨h, j, none⟩ = some (.slice (some ⟨b, off, none⟩) N c) ∧ w.cell? ⟨b, off + n, none⟩ = some (.slice (some ⟨b', off', none⟩) sh c') ∧ ∀ k, k < sh → w.cell? ⟨b', off' + k, none⟩ = some (.bool (F n k)) := by
 obtain ⟨b, off, b', off', c', e, _, _, h3, h4⟩ := H n hn
 exact ⟨b, off, b', off', c', by rw [hc, e], h3, h4⟩
variable {w : World} {h sh : Nat} {l : List TxA} {S : SA} {A : HA}
set_option maxHeartbeats 1000000 in
theorem gone_any (H : Hall w h sh l S A) {n k : Nat} (hn : n < l.length) (hk : k < sh) :
  Calls Tryz.prog 50 #[.pointer (some ⟨h, 0, none⟩), .int .i64 n, .int .i64 k] w fun e w' => e = .returned (.bool (aU sh l S n k)) ∧ w' = w := by
 obtain ⟨b1, o1, b1', o1', c1, x1, y1, z1⟩ := nE H.h5 H.pt hn hk
 obtain ⟨b2, o2, b2', o2', c2, x2, y2, z2⟩ := nE H.h6 H.ac hn hk
 obtain ⟨b3, o3, b3', o3', c3, x3, y3, z3⟩ := nE H.h3 H.wr hn hk
 obtain ⟨b4, o4, b4', o4', c4, x4, y4, z4⟩ := nE H.h2 H.rd hn hk
 have hl8 := H.l8
 have hs4 := H.s4
 unfold aU
 clear H
 generalize fE sh (gX l n) k = P at *
 generalize iW sh (gX l n) k = Q at *
 generalize bW S.wr n k = X at *
 generalize bW S.rd n k = Y at *
 go_enter Tryz.func50, Tryz.ntmps50
 cases P
 ·go_wp2
  go_ret
  exact ⟨rfl, rfl⟩
 ·cases Q
  ·go_wp2
   go_ret
   exact ⟨rfl, rfl⟩
  ·go_wp2
   go_ret
   exact ⟨rfl, rfl⟩
theorem kP (f : Nat → Bool) (j : Nat) : (List.range (j + 1)).all f = ((List.range j).all f && f j) := by
 rw [List.range_succ, List.all_append]; simp
theorem fZ {f : Nat → Bool} {j n : Nat} (hj : j < n) (h : f j = false) : (List.range n).all f = false := by
 rw [List.all_eq_false]
 exact ⟨j, List.mem_range.2 hj, by simp [h]⟩
theorem any_to (f : Nat → Bool) (j : Nat) : (List.range (j + 1)).any f = ((List.range j).any f || f j) := by
 rw [List.range_succ, List.any_append]; simp
theorem any_stop {f : Nat → Bool} {j n : Nat} (hj : j < n) (h : f j = true) : (List.range n).any f = true := by
 rw [List.any_eq_true]
 exact ⟨j, List.mem_range.2 hj, h⟩
set_option maxHeartbeats 1000000 in
theorem mS (H : Hall w h sh l S A) {n : Nat} (hn : n < l.length) :
  Calls Tryz.prog 132 #[.pointer (some ⟨h, 0, none⟩), .int .i64 n] w fun e w' => e = .returned (.bool (dE sh l S n)) ∧ w' = w := by
 obtain ⟨b1, o1, b1', o1', c1, x1, y1, z1⟩ := mN H.h5 H.pt hn
 obtain ⟨b4, o4, b4', o4', c4, x4, y4, z4⟩ := mN H.h2 H.rd hn
 have hl8 := H.l8
 have hs4 := H.s4
 have Z1 : Hid (∀ k, k < sh → w.cell? ⟨b1', o1' + k, none⟩ = some (.bool (fE sh (gX l n) k))) := z1
 have Z4 : Hid (∀ k, k < sh → w.cell? ⟨b4', o4' + k, none⟩ = some (.bool (bW S.rd n k))) := z4
 clear H z1 z4
 go_enter Tryz.func132, Tryz.ntmps132
 go_wp2
 go_loop [5, 6, 15] (fun _ _ i => ∃ k : Nat, k ≤ sh ∧ i = .int .i64 k ∧ Hid ((List.range k).all (fun k => !fE sh (gX l n) k || bW S.rd n k) = true)) (fun _ _ i => sh - (intOf i).toNat)
 case atStart => exact ⟨0, Nat.zero_le _, rfl, rfl⟩
 case round =>
  obtain ⟨k, hk, rfl, hall⟩ := hrel
  by_cases hlt : k < sh
  ·have d1 := Z1.out k hlt
   have d4 := Z4.out k hlt
   have hstep : Hid ((List.range (k + 1)).all (fun k => !fE sh (gX l n) k || bW S.rd n k) = (!fE sh (gX l n) k || bW S.rd n k)) := by
    show _ = _
    rw [kP, hall.out, Bool.true_and]
   have hstop : Hid ((!fE sh (gX l n) k || bW S.rd n k) = false → dE sh l S n = false) := fun e => fZ hlt e
   clear hall
   generalize fE sh (gX l n) k = P at *
   generalize bW S.rd n k = Y at *
   cases P
   ·go_wp2
    go_round
    case rel => exact ⟨k + 1, by omega, by go_num, hstep.out⟩
    case measure => simp [intOf]; omega
   ·cases Y
    ·have hF : Hid (dE sh l S n = false) := hstop.out rfl
     clear hstop hstep
     go_wp2
     go_ret
     exact ⟨by rw [hF.out]; rfl, rfl⟩
    ·go_wp2
     go_round
     case rel => exact ⟨k + 1, by omega, by go_num, hstep.out⟩
     case measure => simp [intOf]; omega
  ·have hT : Hid (dE sh l S n = true) := by
    have : k = sh := by omega
    subst this
    exact hall.out
   clear hall
   go_wp2
   go_ret
   exact ⟨by rw [hT.out]; rfl, rfl⟩
end Go.Proofs.YtebjkmknhpgemaaGreat
namespace Go.Proofs.YtebjkmknhpgemaaGreat
open Go.RowKit
def nI (P : Int × Bool → Bool) (L : List (Int × Bool)) : Int := if L.any P = true then ((L.findIdx P : Nat) : Int) else -1
theorem idx_step (P : Int × Bool → Bool) (L : List (Int × Bool)) (k : Nat) (h : k < L.length) (hn : ∀ p ∈ L.take k, P p = false) : (P (L.getD k (0, false)) = true → nI P L = k) ∧ (P (L.getD k (0, false)) = false → ∀ p ∈ L.take (k + 1), P p = false) := by
 have e : L.getD k (0, false) = L[k] := by simp [List.getD, h]
 rw [e]
 constructor
 ·intro hp
  unfold nI
  rw [if_pos (List.any_eq_true.2 ⟨L[k], List.getElem_mem h, hp⟩)]
  have : L.findIdx P = k := by
   rw [List.findIdx_eq h]
   refine ⟨hp, fun j hj => ?_⟩
   exact hn _ (List.mem_take_iff_getElem.2 ⟨j, by omega, rfl⟩)
  rw [this]
 ·intro hp p hm
  rw [List.take_succ_eq_append_getElem h, List.mem_append, List.mem_singleton] at hm
  rcases hm with hm | rfl
  ·exact hn p hm
  ·exact hp
theorem idx_none (P : Int × Bool → Bool) (L : List (Int × Bool)) (hn : ∀ p ∈ L, P p = false) : nI P L = -1 := by
 unfold nI
 rw [if_neg]
 intro h
 obtain ⟨p, hp, h⟩ := List.any_eq_true.1 h
 rw [hn p hp] at h
 cases h
theorem idxI_ge (P : Int × Bool → Bool) (L : List (Int × Bool)) : decide (0 ≤ nI P L) = L.any P := by
 unfold nI
 cases h : L.any P with
 | true => simp
 | false => simp
set_option maxHeartbeats 1000000 in
theorem index_in (L : List (Int × Bool)) (a : Option Addr) (c : Nat) (F : FuncId) (cap : Array Value) (P : Int × Bool → Bool) (w : World) (hL : IsLks w a L) (hl : L.length ≤ 100)
  (hF : ∀ v w, Sem.run Tryz.prog (callFunc F (#[v] ++ cap)) w = .ok (.enter F (#[v] ++ cap)) w)
  (hC : ∀ z b, (z, b) ∈ L → ∀ w', Below w.heap.size w w' → Calls Tryz.prog F (#[.agg #[.int .i64 z, .bool b]] ++ cap) w' fun e w'' => e = .returned (.bool (P (z, b))) ∧ Below w'.heap.size w' w'') :
  Calls Tryz.prog 171 #[.slice a L.length c, .func (.func F) #[] cap] w fun e w' => e = .returned (.int .i64 (nI P L)) ∧ Below w.heap.size w w' := by
 have HL : Hid (IsLks w a L) := hL
 have HF : Hid (∀ v w, Sem.run Tryz.prog (callFunc F (#[v] ++ cap)) w = .ok (.enter F (#[v] ++ cap)) w) := hF
 have HC : Hid (∀ z b, (z, b) ∈ L → ∀ w', Below w.heap.size w w' → Calls Tryz.prog F (#[.agg #[.int .i64 z, .bool b]] ++ cap) w' fun e w'' => e = .returned (.bool (P (z, b))) ∧ Below w'.heap.size w' w'') := hC
 clear hL hF hC
 go_enter Tryz.func171, Tryz.ntmps171
 go_wp2
 go_loopw [5, 8] (fun _ i wr => ∃ k : Nat, k ≤ L.length ∧ i = .int .i64 k ∧ Hid (∀ p ∈ L.take k, P p = false) ∧ Hid (Below w.heap.size w wr)) (fun _ i _ => L.length - (intOf i).toNat)
 case atStart => exact ⟨0, Nat.zero_le _, rfl, (fun p hp => by simp at hp), Below.refl _ _⟩
 case round =>
  obtain ⟨k, hk, rfl, hn, hB⟩ := hrel
  by_cases hlt : k < L.length
  ·obtain ⟨b, off, rfl, _, c0, c1⟩ := HL.out k hlt
   have d0 := aA hB.out c0
   have d1 := aA hB.out c1
   have HS : Hid ((P (L.getD k (0, false)) = true → nI P L = k) ∧ (P (L.getD k (0, false)) = false → ∀ p ∈ L.take (k + 1), P p = false)) := idx_step P L k hlt hn.out
   have HM : Hid (L.getD k (0, false) ∈ L) := by
    show _ ∈ _
    simp [List.getD, hlt]
   clear c0 c1 hn
   generalize L.getD k (0, false) = pr at *
   obtain ⟨z, t⟩ := pr
   simp only at d0 d1
   have j1 : (0 : Int) ≤ (k : Int) := by omega
   have j2 : (k : Int) < (L.length : Int) := by omega
   go_wp2_with fail
   rw [HF.out, Oper.upon_enter]
   refine (HC.out z t HM.out _ hB.out).mono ?_
   rintro e w1 ⟨rfl, hb1⟩
   have B1 : Hid (Below w.heap.size w w1) := aC hB.out hb1
   clear hb1 hB d0 d1
   cases hp : P (z, t) with
   | true =>
    have HR : Hid (nI P L = k) := HS.out.1 hp
    clear HS
    go_wp2
    go_ret
    exact ⟨by rw [HR.out]; rfl, B1.out⟩
   | false =>
    have HR : Hid (∀ p ∈ L.take (k + 1), P p = false) := HS.out.2 hp
    clear HS
    go_wp2
    go_roundw
    case rel => exact ⟨k + 1, by omega, by go_num, HR, B1⟩
    case measure => simp [intOf]; omega
  ·have HR : Hid (nI P L = -1) := idx_none P L (by
    have h := hn.out
    rw [List.take_of_length_le (by omega)] at h
    exact h)
   clear hn
   go_wp2
   go_ret
   exact ⟨by rw [HR.out]; rfl, hB.out⟩
set_option maxHeartbeats 1000000 in
theorem nC (L : List (Int × Bool)) (a : Option Addr) (c : Nat) (F : FuncId) (cap : Array Value) (P : Int × Bool → Bool) (w : World) (hL : IsLks w a L) (hl : L.length ≤ 100)
  (hF : ∀ v w, Sem.run Tryz.prog (callFunc F (#[v] ++ cap)) w = .ok (.enter F (#[v] ++ cap)) w)
  (hC : ∀ z b, (z, b) ∈ L → ∀ w', Below w.heap.size w w' → Calls Tryz.prog F (#[.agg #[.int .i64 z, .bool b]] ++ cap) w' fun e w'' => e = .returned (.bool (P (z, b))) ∧ Below w'.heap.size w' w'') :
  Calls Tryz.prog 160 #[.slice a L.length c, .func (.func F) #[] cap] w fun e w' => e = .returned (.bool (L.any P)) ∧ Below w.heap.size w w' := by
 have H : Hid (Calls Tryz.prog 171 #[.slice a L.length c, .func (.func F) #[] cap] w fun e w' => e = .returned (.int .i64 (nI P L)) ∧ Below w.heap.size w w') := index_in L a c F cap P w hL hl hF hC
 have HG : Hid (decide (0 ≤ nI P L) = L.any P) := idxI_ge P L
 clear hL hF hC
 go_enter Tryz.func160, Tryz.ntmps160
 go_wp2_with fail
 refine H.out.mono ?_
 clear H
 rintro e w1 ⟨rfl, hb⟩
 have B : Hid (Below w.heap.size w w1) := hb
 clear hb
 go_wp2
 go_ret
 exact ⟨by rw [← HG.out]; rfl, B.out⟩
theorem aE (W : World) (cs : Array Value) (ty : TypeId) (b j : Nat) (v : Value) (hb : b = W.heap.size) (hj : cs[j]? = some v) : (W.alloc (.cells cs ty)).cell? ⟨b, j, none⟩ = some v := by
 subst hb
 simp [hj]
theorem shE_in (sh k : Nat) (h0 : 0 < sh) (h4 : sh ≤ 4) (hk : k < 8) : iO sh [] k = 0 ∧ kD sh [] k = ((k % sh : Nat) : Int) := by
 have h1 : iO sh [] k = 0 := by
  have hp : aP sh [] = 0 := by
   unfold aP fL
   rw [if_neg (by omega)]
   rfl
  unfold iO
  rw [hp, if_neg (by omega)]
  rfl
 refine ⟨h1, ?_⟩
 unfold kD
 rw [if_pos h1]
 omega
theorem lk_len (x : TxA) : (iH x).length ≤ 8 := jE _ _ 8
variable {w : World} {h sh : Nat} {l : List TxA} {S : SA} {A : HA}
set_option maxHeartbeats 1000000 in
theorem qY (w : World) (h p sh : Nat) (x0 : w.cell? ⟨h, 0, none⟩ = some (.pointer (some ⟨p, 0, none⟩))) (x1 : w.cell? ⟨p, 0, none⟩ = some (.int .i64 sh)) (hs0 : 0 < sh) (hs4 : sh ≤ 4) {c k : Nat} (hc : c < 8) :
  Calls Tryz.prog 113 #[.pointer (some ⟨h, 0, none⟩), .int .i64 c, .int .i64 k] w fun e w' => e = .returned (.bool (c % sh == k)) ∧ Below w.heap.size w w' := by
 obtain ⟨e1, e2⟩ := shE_in sh c hs0 hs4 hc
 have CS : Hid (Calls Tryz.prog 140 #[.agg #[.int .i64 sh, .slice none 0 0], .int .i64 c] w fun e w' => e = .returned (.tuple #[.int .i64 ((c % sh : Nat) : Int), .int .i64 0]) ∧ Below w.heap.size w w') := by
  have hh := shard_any none 0 [] sh c w (fun i hi => by simp at hi)
  rw [e1, e2] at hh
  exact hh
 have HE : Hid ((((c % sh : Nat) : Int) == (k : Int)) = (c % sh == k)) := by
  show _ = _
  rw [Bool.eq_iff_iff, beq_iff_eq, beq_iff_eq]
  omega
 clear e1 e2
 generalize c % sh = r at *
 go_enter Tryz.func113, Tryz.ntmps113
 go_wp2_with fail
 refine CS.out.mono ?_
 clear CS
 rintro e w1 ⟨rfl, hb⟩
 have B1 : Hid (Below w.heap.size w w1) := hb
 clear hb x0 x1
 go_wp2_with fail
 refine (mH _ 0 rfl _).mono ?_
 rintro e w2 ⟨rfl, hw2⟩
 have B2 : Hid (Below w.heap.size w w2) := by rw [hw2]; exact aB B1.out _
 clear hw2 B1
 go_wp2
 go_ret
 exact ⟨by rw [HE.out]; rfl, B2.out⟩
theorem lies_any (H : Hall w h sh l S A) {c k : Nat} (hc : c < 8) :
  Calls Tryz.prog 113 #[.pointer (some ⟨h, 0, none⟩), .int .i64 c, .int .i64 k] w fun e w' => e = .returned (.bool (c % sh == k)) ∧ Below w.heap.size w w' := qY w h A.p sh H.h0 H.p0 H.s0 H.s4 hc
theorem cl162 (z y : Int) (b t : Bool) (p : Nat) (w : World) (h0 : w.cell? ⟨p, 0, none⟩ = some (.int .i64 y)) (h1 : w.cell? ⟨p, 1, none⟩ = some (.bool t)) :
  Calls Tryz.prog 162 #[.agg #[.int .i64 z, .bool b], .pointer (some ⟨p, 0, none⟩)] w fun e w' => e = .returned (.bool (y == z && (t || b))) ∧ Below w.heap.size w w' := by
 have hU : Hid (Below w.heap.size w (w.alloc (.cells #[.int .i64 z, .bool b] 134))) := aB (Below.refl _ _) _
 have d0 := aA hU.out h0
 have d1 := aA hU.out h1
 have e0 : (w.alloc (.cells #[.int .i64 z, .bool b] 134)).cell? ⟨w.heap.size, 0, none⟩ = some (.int .i64 z) := by simp
 have e1 : (w.alloc (.cells #[.int .i64 z, .bool b] 134)).cell? ⟨w.heap.size, 1, none⟩ = some (.bool b) := by simp
 clear h0 h1
 go_enter Tryz.func162, Tryz.ntmps162
 cases hq : (y == z)
 ·go_wp2
  go_ret
  exact ⟨rfl, hU.out⟩
 ·cases t
  ·go_wp2
   go_ret
   exact ⟨rfl, hU.out⟩
  ·go_wp2
   go_ret
   exact ⟨rfl, hU.out⟩
end Go.Proofs.YtebjkmknhpgemaaGreat
