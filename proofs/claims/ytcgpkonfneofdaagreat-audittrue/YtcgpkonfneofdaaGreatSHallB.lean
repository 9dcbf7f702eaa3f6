/-
  
  Conditions: those that each theorem states.
-/
import Derived.Test.YtcgpkonfneofdaaGreatSStepsB
import Derived.Deep.RegionLaw
import Derived.Deep.DeepCutAuto
import Derived.Deep.AppendLies
set_option maxRecDepth 100000
namespace Go.Proofs.YtcgpkonfneofdaaGreat
open Go.RowKit
def IsBR (lo : Nat) (w : World) (a : Option Addr) (n sh : Nat) (F : Nat → Nat → Bool) : Prop :=
 ∀ i, i < n → ∃ b off b' off' c', a = some ⟨b, off, none⟩ ∧ (lo ≤ b ∧ b < w.heap.size) ∧ (lo ≤ b' ∧ b' < w.heap.size) ∧ w.cell? ⟨b, off + i, none⟩ = some (.slice (some ⟨b', off', none⟩) sh c') ∧ ∀ k, k < sh → w.cell? ⟨b', off' + k, none⟩ = some (.bool (F i k))
def IsIR (lo : Nat) (w : World) (a : Option Addr) (l : List TxA) (V : List (List Int)) : Prop :=
 ∀ i, i < l.length → ∃ b off a' c', a = some ⟨b, off, none⟩ ∧ (lo ≤ b ∧ b < w.heap.size) ∧ w.cell? ⟨b, off + i, none⟩ = some (.slice a' (gX l i).rs.length c') ∧ (V.getD i []).length = (gX l i).rs.length ∧ IsInts w a' (V.getD i []) ∧ (∀ ad, a' = some ad → lo ≤ ad.block) ∧ (a' = none → c' = 0)
def lkX (x : TxA) : List (Int × Bool) := lkTo x.rs (keysOf x.ss) 8
def IsLR (lo : Nat) (w : World) (a : Option Addr) (l : List TxA) : Prop :=
 ∀ i, i < l.length → ∃ b off a' c', a = some ⟨b, off, none⟩ ∧ (lo ≤ b ∧ b < w.heap.size) ∧ w.cell? ⟨b, off + i, none⟩ = some (.slice a' (lkX (gX l i)).length c') ∧ IsLks w a' (lkX (gX l i)) ∧ (∀ ad, a' = some ad → lo ≤ ad.block)
theorem IsBR.below {lo : Nat} {w w' : World} {a : Option Addr} {n sh : Nat} {F : Nat → Nat → Bool} (h : IsBR lo w a n sh F) (hb : Below w.heap.size w w') : IsBR lo w' a n sh F := fun i hi => by
 obtain ⟨b, off, b', off', c', e, h1, h2, h3, h4⟩ := h i hi
 exact ⟨b, off, b', off', c', e, ⟨h1.1, Nat.lt_of_lt_of_le h1.2 hb.size⟩, ⟨h2.1, Nat.lt_of_lt_of_le h2.2 hb.size⟩, ext_cell hb h3, fun k hk => ext_cell hb (h4 k hk)⟩
theorem IsIR.below {lo : Nat} {w w' : World} {a : Option Addr} {l : List TxA} {V : List (List Int)} (h : IsIR lo w a l V) (hb : Below w.heap.size w w') : IsIR lo w' a l V := fun i hi => by
 obtain ⟨b, off, a', c', e, h1, h2, h3, h4, h5⟩ := h i hi
 exact ⟨b, off, a', c', e, ⟨h1.1, Nat.lt_of_lt_of_le h1.2 hb.size⟩, ext_cell hb h2, h3, h4.below hb, h5⟩
theorem IsLR.below {lo : Nat} {w w' : World} {a : Option Addr} {l : List TxA} (h : IsLR lo w a l) (hb : Below w.heap.size w w') : IsLR lo w' a l := fun i hi => by
 obtain ⟨b, off, a', c', e, h1, h2, h3, h4⟩ := h i hi
 exact ⟨b, off, a', c', e, ⟨h1.1, Nat.lt_of_lt_of_le h1.2 hb.size⟩, ext_cell hb h2, h3.below hb, h4⟩
structure HA where
 p : Nat
 la : Option Addr
 sa : Option Addr
 ra : Option Addr
 wa : Option Addr
 va : Option Addr
 pa : Option Addr
 qa : Option Addr
 ka : Option Addr
 lc : Nat
 sc : Nat
 rc : Nat
 wc : Nat
 vc : Nat
 pc : Nat
 qc : Nat
 kc : Nat
structure Hall (w : World) (h sh : Nat) (l : List TxA) (S : SA) (A : HA) : Prop where
 h0 : w.cell? ⟨h, 0, none⟩ = some (.pointer (some ⟨A.p, 0, none⟩))
 h1 : w.cell? ⟨h, 1, none⟩ = some (.slice A.sa 8 A.sc)
 h2 : w.cell? ⟨h, 2, none⟩ = some (.slice A.ra l.length A.rc)
 h3 : w.cell? ⟨h, 3, none⟩ = some (.slice A.wa l.length A.wc)
 h4 : w.cell? ⟨h, 4, none⟩ = some (.slice A.va l.length A.vc)
 h5 : w.cell? ⟨h, 5, none⟩ = some (.slice A.pa l.length A.pc)
 h6 : w.cell? ⟨h, 6, none⟩ = some (.slice A.qa l.length A.qc)
 h7 : w.cell? ⟨h, 7, none⟩ = some (.slice A.ka l.length A.kc)
 p0 : w.cell? ⟨A.p, 0, none⟩ = some (.int .i64 sh)
 p1 : w.cell? ⟨A.p, 1, none⟩ = some (.slice A.la l.length A.lc)
 tx : IsTxs w A.la l
 s8 : S.st.length = 8
 st : IsInts w A.sa S.st
 rd : IsBR 0 w A.ra l.length sh (at2 S.rd)
 wr : IsBR 0 w A.wa l.length sh (at2 S.wr)
 vs : IsIR 0 w A.va l S.vs
 pt : IsBR (h + 1) w A.pa l.length sh (fun n k => ptB sh (gX l n) k)
 ac : IsBR (h + 1) w A.qa l.length sh (fun n k => acB sh (gX l n) k)
 lk : IsLR (h + 1) w A.ka l
 s0 : 0 < sh
 s4 : sh ≤ 4
 l8 : l.length ≤ 8
theorem Hall.below {w w' : World} {h sh : Nat} {l : List TxA} {S : SA} {A : HA} (H : Hall w h sh l S A) (hb : Below w.heap.size w w') : Hall w' h sh l S A :=
 ⟨ext_cell hb H.h0, ext_cell hb H.h1, ext_cell hb H.h2, ext_cell hb H.h3, ext_cell hb H.h4, ext_cell hb H.h5, ext_cell hb H.h6, ext_cell hb H.h7, ext_cell hb H.p0, ext_cell hb H.p1, H.tx.below hb, H.s8, H.st.below hb, H.rd.below hb, H.wr.below hb, H.vs.below hb, H.pt.below hb, H.ac.below hb, H.lk.below hb, H.s0, H.s4, H.l8⟩
theorem br_at {lo : Nat} {w : World} {h j : Nat} {a : Option Addr} {N c sh : Nat} {F : Nat → Nat → Bool} (hc : w.cell? ⟨h, j, none⟩ = some (.slice a N c)) (H : IsBR lo w a N sh F) {n k : Nat} (hn : n < N) (hk : k < sh) :
  ∃ b off b' off' c', w.cell? ⟨h, j, none⟩ = some (.slice (some ⟨b, off, none⟩) N c) ∧ w.cell? ⟨b, off + n, none⟩ = some (.slice (some ⟨b', off', none⟩) sh c') ∧ w.cell? ⟨b', off' + k, none⟩ = some (.bool (F n k)) := by
 obtain ⟨b, off, b', off', c', e, _, _, h3, h4⟩ := H n hn
 exact ⟨b, off, b', off', c', by rw [hc, e], h3, h4 k hk⟩
theorem br_row {lo : Nat} {w : World} {h j : Nat} {a : Option Addr} {N c sh : Nat} {F : Nat → Nat → Bool} (hc : w.cell? ⟨h, j, none⟩ = some (.slice a N c)) (H : IsBR lo w a N sh F) {n : Nat} (hn : n < N) :
  ∃ b off b' off' c', w.cell? ⟨h, j, none⟩ = some (.slice (some ⟨b, off, none⟩) N c) ∧ w.cell? ⟨b, off + n, none⟩ = some (.slice (some ⟨b', off', none⟩) sh c') ∧ ∀ k, k < sh → w.cell? ⟨b', off' + k, none⟩ = some (.bool (F n k)) := by
 obtain ⟨b, off, b', off', c', e, _, _, h3, h4⟩ := H n hn
 exact ⟨b, off, b', off', c', by rw [hc, e], h3, h4⟩
variable {w : World} {h sh : Nat} {l : List TxA} {S : SA} {A : HA}
set_option maxHeartbeats 1000000 in
theorem gone_any (H : Hall w h sh l S A) {n k : Nat} (hn : n < l.length) (hk : k < sh) :
  Calls Tryz.prog 44 #[.pointer (some ⟨h, 0, none⟩), .int .i64 n, .int .i64 k] w fun e w' => e = .returned (.bool (goneB sh l S n k)) ∧ w' = w := by
 obtain ⟨b1, o1, b1', o1', c1, x1, y1, z1⟩ := br_at H.h5 H.pt hn hk
 obtain ⟨b2, o2, b2', o2', c2, x2, y2, z2⟩ := br_at H.h6 H.ac hn hk
 obtain ⟨b3, o3, b3', o3', c3, x3, y3, z3⟩ := br_at H.h3 H.wr hn hk
 obtain ⟨b4, o4, b4', o4', c4, x4, y4, z4⟩ := br_at H.h2 H.rd hn hk
 have hl8 := H.l8
 have hs4 := H.s4
 unfold goneB
 clear H
 generalize ptB sh (gX l n) k = P at *
 generalize acB sh (gX l n) k = Q at *
 generalize at2 S.wr n k = X at *
 generalize at2 S.rd n k = Y at *
 go_enter Tryz.func44, Tryz.ntmps44
 cases P
 ·go_wp2
  go_ret
  exact ⟨rfl, rfl⟩
 ·cases Q
  ·go_wp2
   go_ret
   exact ⟨rfl, rfl⟩
  ·go_wp2
   go_ret
   exact ⟨rfl, rfl⟩
theorem all_to (f : Nat → Bool) (j : Nat) : (List.range (j + 1)).all f = ((List.range j).all f && f j) := by
 rw [List.range_succ, List.all_append]; simp
theorem all_stop {f : Nat → Bool} {j n : Nat} (hj : j < n) (h : f j = false) : (List.range n).all f = false := by
 rw [List.all_eq_false]
 exact ⟨j, List.mem_range.2 hj, by simp [h]⟩
theorem any_to (f : Nat → Bool) (j : Nat) : (List.range (j + 1)).any f = ((List.range j).any f || f j) := by
 rw [List.range_succ, List.any_append]; simp
theorem any_stop {f : Nat → Bool} {j n : Nat} (hj : j < n) (h : f j = true) : (List.range n).any f = true := by
 rw [List.any_eq_true]
 exact ⟨j, List.mem_range.2 hj, h⟩
set_option maxHeartbeats 1000000 in
theorem readAll_any (H : Hall w h sh l S A) {n : Nat} (hn : n < l.length) :
  Calls Tryz.prog 100 #[.pointer (some ⟨h, 0, none⟩), .int .i64 n] w fun e w' => e = .returned (.bool (allRd sh l S n)) ∧ w' = w := by
 obtain ⟨b1, o1, b1', o1', c1, x1, y1, z1⟩ := br_row H.h5 H.pt hn
 obtain ⟨b4, o4, b4', o4', c4, x4, y4, z4⟩ := br_row H.h2 H.rd hn
 have hl8 := H.l8
 have hs4 := H.s4
 have Z1 : Hid (∀ k, k < sh → w.cell? ⟨b1', o1' + k, none⟩ = some (.bool (ptB sh (gX l n) k))) := z1
 have Z4 : Hid (∀ k, k < sh → w.cell? ⟨b4', o4' + k, none⟩ = some (.bool (at2 S.rd n k))) := z4
 clear H z1 z4
 go_enter Tryz.func100, Tryz.ntmps100
 go_wp2
 go_loop [5, 6, 15] (fun _ _ i => ∃ k : Nat, k ≤ sh ∧ i = .int .i64 k ∧ Hid ((List.range k).all (fun k => !ptB sh (gX l n) k || at2 S.rd n k) = true)) (fun _ _ i => sh - (intOf i).toNat)
 case atStart => exact ⟨0, Nat.zero_le _, rfl, rfl⟩
 case round =>
  obtain ⟨k, hk, rfl, hall⟩ := hrel
  by_cases hlt : k < sh
  ·have d1 := Z1.out k hlt
   have d4 := Z4.out k hlt
   have hstep : Hid ((List.range (k + 1)).all (fun k => !ptB sh (gX l n) k || at2 S.rd n k) = (!ptB sh (gX l n) k || at2 S.rd n k)) := by
    show _ = _
    rw [all_to, hall.out, Bool.true_and]
   have hstop : Hid ((!ptB sh (gX l n) k || at2 S.rd n k) = false → allRd sh l S n = false) := fun e => all_stop hlt e
   clear hall
   generalize ptB sh (gX l n) k = P at *
   generalize at2 S.rd n k = Y at *
   cases P
   ·go_wp2
    go_round
    case rel => exact ⟨k + 1, by omega, by go_num, hstep.out⟩
    case measure => simp [intOf]; omega
   ·cases Y
    ·have hF : Hid (allRd sh l S n = false) := hstop.out rfl
     clear hstop hstep
     go_wp2
     go_ret
     exact ⟨by rw [hF.out]; rfl, rfl⟩
    ·go_wp2
     go_round
     case rel => exact ⟨k + 1, by omega, by go_num, hstep.out⟩
     case measure => simp [intOf]; omega
  ·have hT : Hid (allRd sh l S n = true) := by
    have : k = sh := by omega
    subst this
    exact hall.out
   clear hall
   go_wp2
   go_ret
   exact ⟨by rw [hT.out]; rfl, rfl⟩
end Go.Proofs.YtcgpkonfneofdaaGreat
namespace Go.Proofs.YtcgpkonfneofdaaGreat
open Go.RowKit
def idxI (P : Int × Bool → Bool) (L : List (Int × Bool)) : Int := if L.any P = true then ((L.findIdx P : Nat) : Int) else -1
theorem idx_step (P : Int × Bool → Bool) (L : List (Int × Bool)) (k : Nat) (h : k < L.length) (hn : ∀ p ∈ L.take k, P p = false) : (P (L.getD k (0, false)) = true → idxI P L = k) ∧ (P (L.getD k (0, false)) = false → ∀ p ∈ L.take (k + 1), P p = false) := by
 have e : L.getD k (0, false) = L[k] := by simp [List.getD, h]
 rw [e]
 constructor
 ·intro hp
  unfold idxI
  rw [if_pos (List.any_eq_true.2 ⟨L[k], List.getElem_mem h, hp⟩)]
  have : L.findIdx P = k := by
   rw [List.findIdx_eq h]
   refine ⟨hp, fun j hj => ?_⟩
   exact hn _ (List.mem_take_iff_getElem.2 ⟨j, by omega, rfl⟩)
  rw [this]
 ·intro hp p hm
  rw [List.take_succ_eq_append_getElem h, List.mem_append, List.mem_singleton] at hm
  rcases hm with hm | rfl
  ·exact hn p hm
  ·exact hp
theorem idx_none (P : Int × Bool → Bool) (L : List (Int × Bool)) (hn : ∀ p ∈ L, P p = false) : idxI P L = -1 := by
 unfold idxI
 rw [if_neg]
 intro h
 obtain ⟨p, hp, h⟩ := List.any_eq_true.1 h
 rw [hn p hp] at h
 cases h
theorem idxI_ge (P : Int × Bool → Bool) (L : List (Int × Bool)) : decide (0 ≤ idxI P L) = L.any P := by
 unfold idxI
 cases h : L.any P with
 | true => simp
 | false => simp
set_option maxHeartbeats 1000000 in
theorem index_in (L : List (Int × Bool)) (a : Option Addr) (c : Nat) (F : FuncId) (cap : Array Value) (P : Int × Bool → Bool) (w : World) (hL : IsLks w a L) (hl : L.length ≤ 100)
  (hF : ∀ v w, Sem.run Tryz.prog (callFunc F (#[v] ++ cap)) w = .ok (.enter F (#[v] ++ cap)) w)
  (hC : ∀ z b, (z, b) ∈ L → ∀ w', Below w.heap.size w w' → Calls Tryz.prog F (#[.agg #[.int .i64 z, .bool b]] ++ cap) w' fun e w'' => e = .returned (.bool (P (z, b))) ∧ Below w'.heap.size w' w'') :
  Calls Tryz.prog 145 #[.slice a L.length c, .func (.func F) #[] cap] w fun e w' => e = .returned (.int .i64 (idxI P L)) ∧ Below w.heap.size w w' := by
 have HL : Hid (IsLks w a L) := hL
 have HF : Hid (∀ v w, Sem.run Tryz.prog (callFunc F (#[v] ++ cap)) w = .ok (.enter F (#[v] ++ cap)) w) := hF
 have HC : Hid (∀ z b, (z, b) ∈ L → ∀ w', Below w.heap.size w w' → Calls Tryz.prog F (#[.agg #[.int .i64 z, .bool b]] ++ cap) w' fun e w'' => e = .returned (.bool (P (z, b))) ∧ Below w'.heap.size w' w'') := hC
 clear hL hF hC
 go_enter Tryz.func145, Tryz.ntmps145
 go_wp2
 go_loopw [5, 8] (fun _ i wr => ∃ k : Nat, k ≤ L.length ∧ i = .int .i64 k ∧ Hid (∀ p ∈ L.take k, P p = false) ∧ Hid (Below w.heap.size w wr)) (fun _ i _ => L.length - (intOf i).toNat)
 case atStart => exact ⟨0, Nat.zero_le _, rfl, (fun p hp => by simp at hp), Below.refl _ _⟩
 case round =>
  obtain ⟨k, hk, rfl, hn, hB⟩ := hrel
  by_cases hlt : k < L.length
  ·obtain ⟨b, off, rfl, _, c0, c1⟩ := HL.out k hlt
   have d0 := ext_cell hB.out c0
   have d1 := ext_cell hB.out c1
   have HS : Hid ((P (L.getD k (0, false)) = true → idxI P L = k) ∧ (P (L.getD k (0, false)) = false → ∀ p ∈ L.take (k + 1), P p = false)) := idx_step P L k hlt hn.out
   have HM : Hid (L.getD k (0, false) ∈ L) := by
    show _ ∈ _
    simp [List.getD, hlt]
   clear c0 c1 hn
   generalize L.getD k (0, false) = pr at *
   obtain ⟨z, t⟩ := pr
   simp only at d0 d1
   have j1 : (0 : Int) ≤ (k : Int) := by omega
   have j2 : (k : Int) < (L.length : Int) := by omega
   go_wp2_with fail
   rw [HF.out, Oper.upon_enter]
   refine (HC.out z t HM.out _ hB.out).mono ?_
   rintro e w1 ⟨rfl, hb1⟩
   have B1 : Hid (Below w.heap.size w w1) := grow_trans hB.out hb1
   clear hb1 hB d0 d1
   cases hp : P (z, t) with
   | true =>
    have HR : Hid (idxI P L = k) := HS.out.1 hp
    clear HS
    go_wp2
    go_ret
    exact ⟨by rw [HR.out]; rfl, B1.out⟩
   | false =>
    have HR : Hid (∀ p ∈ L.take (k + 1), P p = false) := HS.out.2 hp
    clear HS
    go_wp2
    go_roundw
    case rel => exact ⟨k + 1, by omega, by go_num, HR, B1⟩
    case measure => simp [intOf]; omega
  ·have HR : Hid (idxI P L = -1) := idx_none P L (by
    have h := hn.out
    rw [List.take_of_length_le (by omega)] at h
    exact h)
   clear hn
   go_wp2
   go_ret
   exact ⟨by rw [HR.out]; rfl, hB.out⟩
set_option maxHeartbeats 1000000 in
theorem contains_in (L : List (Int × Bool)) (a : Option Addr) (c : Nat) (F : FuncId) (cap : Array Value) (P : Int × Bool → Bool) (w : World) (hL : IsLks w a L) (hl : L.length ≤ 100)
  (hF : ∀ v w, Sem.run Tryz.prog (callFunc F (#[v] ++ cap)) w = .ok (.enter F (#[v] ++ cap)) w)
  (hC : ∀ z b, (z, b) ∈ L → ∀ w', Below w.heap.size w w' → Calls Tryz.prog F (#[.agg #[.int .i64 z, .bool b]] ++ cap) w' fun e w'' => e = .returned (.bool (P (z, b))) ∧ Below w'.heap.size w' w'') :
  Calls Tryz.prog 142 #[.slice a L.length c, .func (.func F) #[] cap] w fun e w' => e = .returned (.bool (L.any P)) ∧ Below w.heap.size w w' := by
 have H : Hid (Calls Tryz.prog 145 #[.slice a L.length c, .func (.func F) #[] cap] w fun e w' => e = .returned (.int .i64 (idxI P L)) ∧ Below w.heap.size w w') := index_in L a c F cap P w hL hl hF hC
 have HG : Hid (decide (0 ≤ idxI P L) = L.any P) := idxI_ge P L
 clear hL hF hC
 go_enter Tryz.func142, Tryz.ntmps142
 go_wp2_with fail
 refine H.out.mono ?_
 clear H
 rintro e w1 ⟨rfl, hb⟩
 have B : Hid (Below w.heap.size w w1) := hb
 clear hb
 go_wp2
 go_ret
 exact ⟨by rw [← HG.out]; rfl, B.out⟩
theorem at_new (W : World) (cs : Array Value) (ty : TypeId) (b j : Nat) (v : Value) (hb : b = W.heap.size) (hj : cs[j]? = some v) : (W.alloc (.cells cs ty)).cell? ⟨b, j, none⟩ = some v := by
 subst hb
 simp [hj]
theorem shE_in (sh k : Nat) (h0 : 0 < sh) (h4 : sh ≤ 4) (hk : k < 8) : shardE sh [] k = 0 ∧ shardV sh [] k = ((k % sh : Nat) : Int) := by
 have h1 : shardE sh [] k = 0 := by
  have hp : planE sh [] = 0 := by
   unfold planE chkL
   rw [if_neg (by omega)]
   rfl
  unfold shardE
  rw [hp, if_neg (by omega)]
  rfl
 refine ⟨h1, ?_⟩
 unfold shardV
 rw [if_pos h1]
 omega
theorem lk_len (x : TxA) : (lkX x).length ≤ 8 := lkTo_len _ _ 8
variable {w : World} {h sh : Nat} {l : List TxA} {S : SA} {A : HA}
set_option maxHeartbeats 1000000 in
theorem lies_at (w : World) (h p sh : Nat) (x0 : w.cell? ⟨h, 0, none⟩ = some (.pointer (some ⟨p, 0, none⟩))) (x1 : w.cell? ⟨p, 0, none⟩ = some (.int .i64 sh)) (hs0 : 0 < sh) (hs4 : sh ≤ 4) {c k : Nat} (hc : c < 8) :
  Calls Tryz.prog 116 #[.pointer (some ⟨h, 0, none⟩), .int .i64 c, .int .i64 k] w fun e w' => e = .returned (.bool (c % sh == k)) ∧ Below w.heap.size w w' := by
 obtain ⟨e1, e2⟩ := shE_in sh c hs0 hs4 hc
 have CS : Hid (Calls Tryz.prog 130 #[.agg #[.int .i64 sh, .slice none 0 0], .int .i64 c] w fun e w' => e = .returned (.tuple #[.int .i64 ((c % sh : Nat) : Int), .int .i64 0]) ∧ Below w.heap.size w w') := by
  have hh := shard_any none 0 [] sh c w (fun i hi => by simp at hi)
  rw [e1, e2] at hh
  exact hh
 have HE : Hid ((((c % sh : Nat) : Int) == (k : Int)) = (c % sh == k)) := by
  show _ = _
  rw [Bool.eq_iff_iff, beq_iff_eq, beq_iff_eq]
  omega
 clear e1 e2
 generalize c % sh = r at *
 go_enter Tryz.func116, Tryz.ntmps116
 go_wp2_with fail
 refine CS.out.mono ?_
 clear CS
 rintro e w1 ⟨rfl, hb⟩
 have B1 : Hid (Below w.heap.size w w1) := hb
 clear hb x0 x1
 go_wp2_with fail
 refine (gotInt_ok _ 0 rfl _).mono ?_
 rintro e w2 ⟨rfl, hw2⟩
 have B2 : Hid (Below w.heap.size w w2) := by rw [hw2]; exact grow_alloc B1.out _
 clear hw2 B1
 go_wp2
 go_ret
 exact ⟨by rw [HE.out]; rfl, B2.out⟩
theorem lies_any (H : Hall w h sh l S A) {c k : Nat} (hc : c < 8) :
  Calls Tryz.prog 116 #[.pointer (some ⟨h, 0, none⟩), .int .i64 c, .int .i64 k] w fun e w' => e = .returned (.bool (c % sh == k)) ∧ Below w.heap.size w w' := lies_at w h A.p sh H.h0 H.p0 H.s0 H.s4 hc
theorem cl162 (z y : Int) (b t : Bool) (p : Nat) (w : World) (h0 : w.cell? ⟨p, 0, none⟩ = some (.int .i64 y)) (h1 : w.cell? ⟨p, 1, none⟩ = some (.bool t)) :
  Calls Tryz.prog 144 #[.agg #[.int .i64 z, .bool b], .pointer (some ⟨p, 0, none⟩)] w fun e w' => e = .returned (.bool (y == z && (t || b))) ∧ Below w.heap.size w w' := by
 have hU : Hid (Below w.heap.size w (w.alloc (.cells #[.int .i64 z, .bool b] 149))) := grow_alloc (Below.refl _ _) _
 have d0 := ext_cell hU.out h0
 have d1 := ext_cell hU.out h1
 have e0 : (w.alloc (.cells #[.int .i64 z, .bool b] 149)).cell? ⟨w.heap.size, 0, none⟩ = some (.int .i64 z) := by simp
 have e1 : (w.alloc (.cells #[.int .i64 z, .bool b] 149)).cell? ⟨w.heap.size, 1, none⟩ = some (.bool b) := by simp
 clear h0 h1
 go_enter Tryz.func144, Tryz.ntmps144
 cases hq : (y == z)
 ·go_wp2
  go_ret
  exact ⟨rfl, hU.out⟩
 ·cases t
  ·go_wp2
   go_ret
   exact ⟨rfl, hU.out⟩
  ·go_wp2
   go_ret
   exact ⟨rfl, hU.out⟩
end Go.Proofs.YtcgpkonfneofdaaGreat
