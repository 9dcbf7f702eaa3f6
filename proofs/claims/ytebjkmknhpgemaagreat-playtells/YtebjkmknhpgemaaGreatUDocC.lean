/-
  
  Conditions: those that each theorem states.
-/
import Derived.Test.YtebjkmknhpgemaaGreatUHallM
import Derived.Test.YtebjkmknhpgemaaGreatUFault2
import Derived.Test.YtebjkmknhpgemaaGreatUPlaceE
set_option maxRecDepth 100000
namespace Go.Proofs.YtebjkmknhpgemaaGreat
open Go.RowKit
theorem stE_plan {m : Int} {l : List TxA} {S : SA} (h : eF m l S = 0) : aP m l = 0 := by
 unfold eF at h
 by_cases c : aP m l = 0
 ·exact c
 ·rw [if_neg c] at h; exact h
theorem dL {m : Int} {l : List TxA} {S : SA} (h : eF m l S = 0) : ∃ sh : Nat, m = sh ∧ 0 < sh ∧ sh ≤ 4 ∧ fL l = 0 ∧ aP m l = 0 ∧ fH sh l S = true ∧ cG sh l S = true := by
 have hp := stE_plan h
 have hz := aX hp
 refine ⟨m.toNat, by omega, by omega, by omega, hz.2.2, hp, ?_⟩
 unfold eF at h
 rw [if_pos hp] at h
 cases h1 : fH m.toNat l S <;> cases h2 : cG m.toNat l S <;> simp_all
theorem qO {sh : Nat} {l : List TxA} {S : SA} (hp : aP (sh : Int) l = 0) (h : fH sh l S = false ∨ cG sh l S = false) : eF sh l S = 1 := by
 unfold eF
 rw [if_pos hp]
 have e : ((sh : Int)).toNat = sh := by omega
 rw [e]
 rcases h with h | h <;> rw [h] <;> simp
theorem news_steps {w : World} {ad : Addr} {L : List (Nat × Nat × Nat)} (h : eE w (some ad) L) : ∀ j u, (aR L)[j]? = some u → w.cell? (ad.add j) = some u := by
 intro j u hj
 have hlt : j < L.length * 3 := by rw [← kN]; exact (List.getElem?_eq_some_iff.1 hj).1
 have hi : j / 3 < L.length := by omega
 have hr : j % 3 < 3 := Nat.mod_lt _ (by decide)
 have ej : j = j / 3 * 3 + j % 3 := by omega
 obtain ⟨b, off, ha, hb, c0, c1, c2⟩ := h (j / 3) hi
 obtain ⟨g0, g1, g2⟩ := gR L (j / 3) hi
 injection ha with ha
 subst ha
 rw [ej] at hj
 rw [bS, ej]
 generalize j / 3 = i at *
 generalize j % 3 = r at *
 match r, hr with
 | 0, _ => rw [Nat.add_zero, g0] at hj; injection hj with hj; subst hj; simpa using c0
 | 1, _ => rw [g1] at hj; injection hj with hj; subst hj; simpa [Nat.add_assoc] using c1
 | 2, _ => rw [g2] at hj; injection hj with hj; subst hj; simpa [Nat.add_assoc] using c2
variable (la : Option Addr) (lc : Nat) (l : List TxA) (sa ra wa va : Option Addr) (sc rc tc vc : Nat) (S : SA)
theorem nO (sh : Nat) (w : World) (hl : IsTxs w la l) (hs : Sta w sa ra wa va S) (hE : eF sh l S = 0) :
  Calls Tryz.prog 49 #[.agg #[.int .i64 (sh : Int), .slice la l.length lc], .agg #[.slice sa S.st.length sc, .slice ra S.rd.length rc, .slice wa S.wr.length tc, .slice va S.vs.length vc]] w fun e w' => ∃ h A, e = .returned (.pointer (some ⟨h, 0, none⟩)) ∧ Hall w' h sh l S A ∧ w.heap.size ≤ h ∧ h < w'.heap.size ∧ (∀ j, w'.frozen? ⟨h, j, none⟩ = false) ∧ w.heap.size ≤ A.p ∧ A.p < h ∧ A.la = la ∧ Below w.heap.size w w' := by
 obtain ⟨sh', e, _, _, _, hp, hf, ht⟩ := dL hE
 have e' : sh' = sh := by omega
 subst e'
 refine (qC la lc l sa ra wa va sc rc tc vc S sh' w hl hs hp (dB.1 hf).st hf).mono ?_
 rintro e w' ⟨⟨_, h, A, rfl, H, h1, h2, h3, h4, h5, h6⟩ | ⟨h, _⟩, hb⟩
 ·exact ⟨h, A, rfl, H, h1, h2, h3, h4, h5, h6, hb⟩
 ·rw [ht] at h; cases h
theorem oO (m : Int) (w : World) (hl : IsTxs w la l) (hs : Sta w sa ra wa va S) (hE : ¬ eF m l S = 0) :
  Calls Tryz.prog 49 #[.agg #[.int .i64 m, .slice la l.length lc], .agg #[.slice sa S.st.length sc, .slice ra S.rd.length rc, .slice wa S.wr.length tc, .slice va S.vs.length vc]] w fun e w' => e = .panicked [{ v := .iface 30 (.int .i64 (eF m l S)), recovered := false }] ∧ Below w.heap.size w w' := by
 by_cases hp : aP m l = 0
 ·obtain ⟨sh, rfl⟩ : ∃ sh : Nat, m = sh := ⟨m.toNat, by have := aX hp; omega⟩
  by_cases h8 : S.st.length = 8
  ·cases hf : fH sh l S with
   | false =>
    rw [qO hp (.inl hf)]
    exact hallOf_pan2 la lc l sa ra wa va sc rc tc vc S sh w hl hs hp h8 hf
   | true =>
    cases ht : cG sh l S with
    | false =>
     rw [qO hp (.inr ht)]
     refine (qC la lc l sa ra wa va sc rc tc vc S sh w hl hs hp h8 hf).mono ?_
     rintro e w' ⟨⟨h, _⟩ | ⟨_, rfl⟩, hb⟩
     ·rw [ht] at h; cases h
     ·exact ⟨rfl, hb⟩
    | true =>
     refine absurd ?_ hE
     unfold eF
     have e : ((sh : Int)).toNat = sh := by omega
     rw [if_pos hp, e, hf, ht]
     rfl
  ·have hf : fH sh l S = false := form_bad fun F => h8 F.st
   have e2 : dZ S.st = 1 := if_neg h8
   have e3 : aF [aP (sh : Int) l, dZ S.st] = 1 := by rw [hp, e2]; rfl
   rw [qO hp (.inl hf)]
   have hh := mX la lc l sa ra wa va sc rc tc vc S sh w hl (by rw [e3]; decide)
   rw [e3] at hh
   exact hh
 ·have e1 : eF m l S = aP m l := if_neg hp
  have e3 : aF [aP m l, dZ S.st] = aP m l := by unfold aF; rw [if_neg hp]
  rw [e1]
  have hh := mX la lc l sa ra wa va sc rc tc vc S m w hl (by rw [e3]; exact hp)
  rw [e3] at hh
  exact hh
set_option maxHeartbeats 1000000 in
theorem over1_pan (m : Int) (p q : Nat) (w : World) (p0 : w.cell? ⟨p, 0, none⟩ = some (.int .i64 m)) (p1 : w.cell? ⟨p, 1, none⟩ = some (.slice la l.length lc)) (q0 : w.cell? ⟨q, 0, none⟩ = some (.slice sa S.st.length sc)) (q1 : w.cell? ⟨q, 1, none⟩ = some (.slice ra S.rd.length rc)) (q2 : w.cell? ⟨q, 2, none⟩ = some (.slice wa S.wr.length tc)) (q3 : w.cell? ⟨q, 3, none⟩ = some (.slice va S.vs.length vc)) (hl : IsTxs w la l) (hs : Sta w sa ra wa va S) (hE : ¬ eF m l S = 0) :
  Calls Tryz.prog 48 #[.pointer (some ⟨p, 0, none⟩), .pointer (some ⟨q, 0, none⟩)] w fun e w' => e = .panicked [{ v := .iface 30 (.int .i64 (eF m l S)), recovered := false }] ∧ Below w.heap.size w w' := by
 have CH : Hid (Calls Tryz.prog 49 #[.agg #[.int .i64 m, .slice la l.length lc], .agg #[.slice sa S.st.length sc, .slice ra S.rd.length rc, .slice wa S.wr.length tc, .slice va S.vs.length vc]] w fun e w' => e = .panicked [{ v := .iface 30 (.int .i64 (eF m l S)), recovered := false }] ∧ Below w.heap.size w w') := oO la lc l sa ra wa va sc rc tc vc S m w hl hs hE
 clear hl hs hE
 go_enter Tryz.func48, Tryz.ntmps48
 go_wp2_with fail
 refine CH.out.mono ?_
 rintro e w1 ⟨rfl, hb⟩
 exact ⟨rfl, rfl, hb⟩
set_option maxHeartbeats 1000000 in
theorem can1_pan (m : Int) (p q : Nat) (w : World) (p0 : w.cell? ⟨p, 0, none⟩ = some (.int .i64 m)) (p1 : w.cell? ⟨p, 1, none⟩ = some (.slice la l.length lc)) (q0 : w.cell? ⟨q, 0, none⟩ = some (.slice sa S.st.length sc)) (q1 : w.cell? ⟨q, 1, none⟩ = some (.slice ra S.rd.length rc)) (q2 : w.cell? ⟨q, 2, none⟩ = some (.slice wa S.wr.length tc)) (q3 : w.cell? ⟨q, 3, none⟩ = some (.slice va S.vs.length vc)) (hl : IsTxs w la l) (hs : Sta w sa ra wa va S) (hE : ¬ eF m l S = 0) :
  Calls Tryz.prog 63 #[.pointer (some ⟨p, 0, none⟩), .pointer (some ⟨q, 0, none⟩)] w fun e w' => e = .panicked [{ v := .iface 30 (.int .i64 (eF m l S)), recovered := false }] ∧ Below w.heap.size w w' := by
 have CH : Hid (Calls Tryz.prog 49 #[.agg #[.int .i64 m, .slice la l.length lc], .agg #[.slice sa S.st.length sc, .slice ra S.rd.length rc, .slice wa S.wr.length tc, .slice va S.vs.length vc]] w fun e w' => e = .panicked [{ v := .iface 30 (.int .i64 (eF m l S)), recovered := false }] ∧ Below w.heap.size w w') := oO la lc l sa ra wa va sc rc tc vc S m w hl hs hE
 clear hl hs hE
 go_enter Tryz.func63, Tryz.ntmps63
 go_wp2_with fail
 refine CH.out.mono ?_
 rintro e w1 ⟨rfl, hb⟩
 exact ⟨rfl, rfl, hb⟩
theorem mT (sh : Nat) (l : List TxA) (S : SA) (n : Nat) : eZ sh l S (n + 1) = (eZ sh l S n && (List.range sh).all (aU sh l S n)) := kP _ n
set_option maxHeartbeats 2000000 in
theorem over1_ok (sh : Nat) (p q : Nat) (w : World) (p0 : w.cell? ⟨p, 0, none⟩ = some (.int .i64 (sh : Int))) (p1 : w.cell? ⟨p, 1, none⟩ = some (.slice la l.length lc)) (q0 : w.cell? ⟨q, 0, none⟩ = some (.slice sa S.st.length sc)) (q1 : w.cell? ⟨q, 1, none⟩ = some (.slice ra S.rd.length rc)) (q2 : w.cell? ⟨q, 2, none⟩ = some (.slice wa S.wr.length tc)) (q3 : w.cell? ⟨q, 3, none⟩ = some (.slice va S.vs.length vc)) (hl : IsTxs w la l) (hs : Sta w sa ra wa va S) (hE : eF sh l S = 0) :
  Calls Tryz.prog 48 #[.pointer (some ⟨p, 0, none⟩), .pointer (some ⟨q, 0, none⟩)] w fun e w' => e = .returned (.bool (cD sh l S)) ∧ Below w.heap.size w w' := by
 have CH : Hid (Calls Tryz.prog 49 #[.agg #[.int .i64 (sh : Int), .slice la l.length lc], .agg #[.slice sa S.st.length sc, .slice ra S.rd.length rc, .slice wa S.wr.length tc, .slice va S.vs.length vc]] w fun e w' => ∃ h A, e = .returned (.pointer (some ⟨h, 0, none⟩)) ∧ Hall w' h sh l S A ∧ w.heap.size ≤ h ∧ h < w'.heap.size ∧ (∀ j, w'.frozen? ⟨h, j, none⟩ = false) ∧ w.heap.size ≤ A.p ∧ A.p < h ∧ A.la = la ∧ Below w.heap.size w w') := nO la lc l sa ra wa va sc rc tc vc S sh w hl hs hE
 have HF : Hid (cD sh l S = eZ sh l S l.length) := rfl
 have HS : Hid (∀ n, eZ sh l S (n + 1) = (eZ sh l S n && (List.range sh).all (aU sh l S n))) := mT sh l S
 have HB : Hid (∀ n k, n < l.length → k < sh → aU sh l S n k = false → cD sh l S = false) := fun n k hn hk e => fZ hn (fZ hk e)
 have H0 : Hid (eZ sh l S 0 = true) := rfl
 clear hl hs hE
 generalize cD sh l S = R at *
 generalize hot : eZ sh l S = ot at *
 clear hot
 go_enter Tryz.func48, Tryz.ntmps48
 go_wp2_with fail
 refine CH.out.mono ?_
 rintro e w1 ⟨h, A, rfl, hH, _, _, _, _, _, _, hb⟩
 have B1 : Hid (Below w.heap.size w w1) := hb
 have HH : Hid (Hall w1 h sh l S A) := hH
 have x0 := hH.h0
 have z0 := hH.p0
 have z1 := hH.p1
 have hl8 := hH.l8
 have hs4 := hH.s4
 clear hb p0 p1 q0 q1 q2 q3 hH CH
 go_wp2
 go_loop [17] (fun i => ∃ n : Nat, n ≤ l.length ∧ i = .int .i64 n ∧ Hid (ot n = true)) (fun i => l.length - (intOf i).toNat)
 case atStart => exact ⟨0, Nat.zero_le _, rfl, H0⟩
 case round =>
  obtain ⟨n, hn', rfl, hall⟩ := hrel
  by_cases hlt : n < l.length
  ·have i1 : (n : Int) < (l.length : Int) := by omega
   have HN : Hid ((List.range sh).all (aU sh l S n) = true → ot (n + 1) = true) := fun e => by rw [HS.out, hall.out, e]; rfl
   clear hall
   go_wp2
   go_loop [27] (fun i => ∃ k : Nat, k ≤ sh ∧ i = .int .i64 k ∧ Hid ((List.range k).all (aU sh l S n) = true)) (fun i => sh - (intOf i).toNat)
   case atStart => exact ⟨0, Nat.zero_le _, rfl, rfl⟩
   case round =>
    obtain ⟨k, hk', rfl, hall⟩ := hrel
    by_cases hlt2 : k < sh
    ·have j1 : (k : Int) < (sh : Int) := by omega
     have HT : Hid ((List.range (k + 1)).all (aU sh l S n) = aU sh l S n k) := by show _ = _; rw [kP, hall.out, Bool.true_and]
     have HBk : Hid (aU sh l S n k = false → R = false) := HB.out n k hlt hlt2
     have CG : Hid (Calls Tryz.prog 50 #[.pointer (some ⟨h, 0, none⟩), .int .i64 n, .int .i64 k] w1 fun e w' => e = .returned (.bool (aU sh l S n k)) ∧ w' = w1) := gone_any HH.out hlt hlt2
     clear hall
     generalize hg : aU sh l S n k = G at HT HBk CG
     clear hg
     cases G
     ·have HR : Hid (R = false) := HBk.out rfl
      clear HT HBk
      go_wp2_with fail
      refine CG.out.mono ?_
      rintro e w2 ⟨rfl, hw2⟩
      subst hw2
      clear CG
      go_wp2
      go_ret
      exact ⟨by rw [HR.out]; rfl, B1.out⟩
     ·clear HBk
      go_wp2_with fail
      refine CG.out.mono ?_
      rintro e w2 ⟨rfl, hw2⟩
      subst hw2
      clear CG
      go_wp2
      go_round
      case rel => exact ⟨k + 1, by omega, by go_num, HT.out⟩
      case measure => simp [intOf]; omega
    ·have hkk : k = sh := by omega
     have j1 : ¬ (k : Int) < (sh : Int) := by omega
     have HT : Hid (ot (n + 1) = true) := HN.out (by have := hall.out; rw [hkk] at this; exact this)
     clear hall HN
     go_wp2
     go_round
     case rel => exact ⟨n + 1, by omega, by go_num, HT⟩
     case measure => simp [intOf]; omega
  ·have hnn : n = l.length := by omega
   have i1 : ¬ (n : Int) < (l.length : Int) := by omega
   have HR : Hid (R = true) := by have := hall.out; rw [hnn] at this; exact HF.out.trans this
   clear hall
   go_wp2
   go_ret
   exact ⟨by rw [HR.out]; rfl, B1.out⟩
set_option maxHeartbeats 2000000 in
theorem can1_ok (sh : Nat) (p q : Nat) (w : World) (p0 : w.cell? ⟨p, 0, none⟩ = some (.int .i64 (sh : Int))) (p1 : w.cell? ⟨p, 1, none⟩ = some (.slice la l.length lc)) (q0 : w.cell? ⟨q, 0, none⟩ = some (.slice sa S.st.length sc)) (q1 : w.cell? ⟨q, 1, none⟩ = some (.slice ra S.rd.length rc)) (q2 : w.cell? ⟨q, 2, none⟩ = some (.slice wa S.wr.length tc)) (q3 : w.cell? ⟨q, 3, none⟩ = some (.slice va S.vs.length vc)) (hl : IsTxs w la l) (hs : Sta w sa ra wa va S) (hE : eF sh l S = 0) :
  Calls Tryz.prog 63 #[.pointer (some ⟨p, 0, none⟩), .pointer (some ⟨q, 0, none⟩)] w fun e w' => ∃ v, e = .returned v ∧ w'.ownsRow w.heap.size 48 3 v (bD sh l S).length (aR (bD sh l S)) ∧ Below w.heap.size w w' := by
 obtain ⟨i0, hi, hz0, hz1, hz2⟩ := info_parts Tryz.info48
 have CH : Hid (Calls Tryz.prog 49 #[.agg #[.int .i64 (sh : Int), .slice la l.length lc], .agg #[.slice sa S.st.length sc, .slice ra S.rd.length rc, .slice wa S.wr.length tc, .slice va S.vs.length vc]] w fun e w' => ∃ h A, e = .returned (.pointer (some ⟨h, 0, none⟩)) ∧ Hall w' h sh l S A ∧ w.heap.size ≤ h ∧ h < w'.heap.size ∧ (∀ j, w'.frozen? ⟨h, j, none⟩ = false) ∧ w.heap.size ≤ A.p ∧ A.p < h ∧ A.la = la ∧ Below w.heap.size w w') := nO la lc l sa ra wa va sc rc tc vc S sh w hl hs hE
 clear hl hs hE
 have HC : Hid (bD sh l S = gC sh l S 1 ++ gC sh l S 2) := rfl
 go_enter Tryz.func63, Tryz.ntmps63
 go_wp2_with fail
 refine CH.out.mono ?_
 rintro e w1 ⟨h, A, rfl, hH, _, _, _, _, _, _, hb⟩
 have B1 : Hid (Below w.heap.size w w1) := hb
 have hl8 := hH.l8
 have hs4 := hH.s4
 have CAN : Hid (∀ w', Below w1.heap.size w1 w' → ∀ kd, kd = 1 ∨ kd = 2 → Calls Tryz.prog 64 #[.pointer (some ⟨h, 0, none⟩), .int .i64 ((kd : Nat) : Int)] w' fun e w'' => ∃ v, e = .returned v ∧ w''.ownsRow w'.heap.size 48 3 v (gC sh l S kd).length (aR (gC sh l S kd)) ∧ Below w'.heap.size w' w'') := fun w' hb kd hk => can_own (hH.below hb) kd hk
 have len1 : (gC sh l S 1).length ≤ 40 := Nat.le_trans (fV sh l S 1 l.length) (Nat.le_trans (Nat.mul_le_mul hl8 hs4) (by decide))
 have len2 : (gC sh l S 2).length ≤ 40 := Nat.le_trans (fV sh l S 2 l.length) (Nat.le_trans (Nat.mul_le_mul hl8 hs4) (by decide))
 clear hb p0 p1 q0 q1 q2 q3 hH CH
 go_wp2_with fail
 refine (CAN.out w1 (Below.refl _ _) 1 (.inl rfl)).mono ?_
 rintro e w2 ⟨v1, rfl, ho1, hb2⟩
 have HB2 : Hid (Below w1.heap.size w1 w2) := hb2
 have HO1 : Hid (w2.ownsRow w1.heap.size 48 3 v1 (gC sh l S 1).length (aR (gC sh l S 1))) := ho1
 clear hb2 ho1
 go_wp2_with fail
 refine (CAN.out w2 HB2.out 2 (.inr rfl)).mono ?_
 rintro e w3 ⟨v2, rfl, ho2, hb3⟩
 have HO3 : Hid (w3.ownsRow w.heap.size 48 3 v1 (gC sh l S 1).length (aR (gC sh l S 1))) := gZ (bR HO1.out hb3) B1.out.size
 have B3 : Hid (Below w.heap.size w w3) := aC B1.out (aC HB2.out hb3)
 have hsz : w.heap.size ≤ w3.heap.size := B3.out.size
 obtain ⟨a2, c2, rfl, hs2⟩ := iC ho2 rfl
 have HS2 : Hid (eE w3 a2 (gC sh l S 2)) := hs2
 have HN2 : Hid (a2 = none → gC sh l S 2 = []) := fun e => by
  cases hc : gC sh l S 2 with
  | nil => rfl
  | cons x t =>
   obtain ⟨b, off, ea, _⟩ := hs2 0 (by rw [hc]; simp)
   rw [e] at ea; cases ea
 have HC2 : Hid (a2 = none → c2 = 0) := fun e => by
  rcases ho2.2 with ⟨hh, _⟩ | ⟨g, cap, cur, hh, _⟩
  ·injection hh
  ·injection hh with q; rw [e] at q; cases q
 clear hs2 ho2 hb3 HO1 HB2 CAN
 generalize gC sh l S 1 = K1 at *
 generalize gC sh l S 2 = K2 at *
 have FIN : Hid (∀ (v' : Value) (w4 : World), w4.ownsRow w.heap.size 48 3 v' (K1.length + K2.length) (aR K1 ++ aR K2) → w4.ownsRow w.heap.size 48 3 v' (bD sh l S).length (aR (bD sh l S))) := fun v' w4 h => by
  rw [HC.out, oW, List.length_append]; exact h
 cases a2 with
 | none =>
  have e2 := HN2.out rfl
  subst e2
  have R : Hid (w3.ownsRow w.heap.size 48 3 v1 (bD sh l S).length (aR (bD sh l S))) := FIN.out v1 w3 (by have := HO3.out; simpa [aR] using this)
  have e3 : c2 = 0 := HC2.out rfl
  subst e3
  clear FIN HC HC2 HS2 HN2
  go_wp2_with (first | (at_builtin; refine wpList_append_own_none rfl _ _ 43 rfl w.heap.size 48 i0 3 Tryz.underlying43 hi _ _ _ rfl HO3.out rfl ?_) | go_in)
  clear HO3
  go_wp2
  go_ret
  exact ⟨_, rfl, R.out, B3.out⟩
 | some ad =>
  have hnews : ∀ j u, (aR K2)[j]? = some u → w3.cell? (ad.add j) = some u := news_steps HS2.out
  clear HS2 HN2
  go_wp2_with (first | (at_builtin; (refine wpList_append_own _ rfl _ _ 43 rfl w.heap.size 48 i0 (.agg #[.int .i64 0, .int .i64 0, .int .i64 0]) 3 24 Tryz.underlying43 hi hz0 hz1 hz2 rfl (by decide) _ _ _ rfl HO3.out ad K2.length c2 (aR K2) rfl (kN K2) hnews (oV K2) (by unfold maxLen; omega) (by omega) hsz ?_); intro v' w4 hown' hgrow _) | go_in)
  have R : Hid (w4.ownsRow w.heap.size 48 3 v' (bD sh l S).length (aR (bD sh l S))) := FIN.out v' w4 hown'
  have RB : Hid (Below w.heap.size w w4) := B3.out.grown hgrow hsz (fun j hj => (HO3.out.lt j hj).1)
  clear hown' hgrow HO3 FIN hnews HC
  go_wp2
  go_ret
  exact ⟨_, rfl, R.out, RB.out⟩
end Go.Proofs.YtebjkmknhpgemaaGreat
namespace Go.Proofs.YtebjkmknhpgemaaGreat
open Go.RowKit
theorem lR {W w' : World} {o : Obj} (hb : Below (W.alloc o).heap.size (W.alloc o) w') : Below (W.heap.size + 1) (W.alloc o) w' := by simpa using hb
theorem pan_up {W : World} {o : Obj} {F : FuncId} {cap : Array Value} {v : Ending} (h : Calls Tryz.prog F cap (W.alloc o) fun e w' => e = v ∧ Below (W.alloc o).heap.size (W.alloc o) w') : Calls Tryz.prog F cap (W.alloc o) fun e w' => e = v ∧ Below (W.heap.size + 1) (W.alloc o) w' := h.mono fun _ _ ⟨h1, h2⟩ => ⟨h1, lR h2⟩
def ovE (m : Int) (l : List TxA) (S : SA) : Bool := if eF m l S = 0 then cD m.toNat l S else false
def bO (m : Int) (l : List TxA) (S : SA) : List (Nat × Nat × Nat) := if eF m l S = 0 then bD m.toNat l S else []
variable (la : Option Addr) (lc : Nat) (l : List TxA) (sa ra wa va : Option Addr) (sc rc tc vc : Nat) (S : SA)
set_option maxHeartbeats 1000000 in
theorem pB (m : Int) (w : World) (hl : IsTxs w la l) (hs : Sta w sa ra wa va S) :
  Calls Tryz.prog 15 #[.agg #[.int .i64 m, .slice la l.length lc], .agg #[.slice sa S.st.length sc, .slice ra S.rd.length rc, .slice wa S.wr.length tc, .slice va S.vs.length vc]] w fun e w' => e = .returned (.tuple #[.bool (ovE m l S), .int .i64 (eF m l S)]) ∧ Below w.heap.size w w' := by
 have hg : Below w.heap.size w (((w.alloc (.cells #[.int .i64 m, .slice la l.length lc] 24)).alloc (.cells #[.slice sa S.st.length sc, .slice ra S.rd.length rc, .slice wa S.wr.length tc, .slice va S.vs.length vc] 29)).alloc (.cells #[.int .i64 0] 30)) := aB (aB (aB (Below.refl _ _) _) _) _
 have hU : Hid (Below w.heap.size w ((w.alloc (.cells #[.int .i64 m, .slice la l.length lc] 24)).alloc (.cells #[.slice sa S.st.length sc, .slice ra S.rd.length rc, .slice wa S.wr.length tc, .slice va S.vs.length vc] 29))) := aB (aB (Below.refl _ _) _) _
 have hmf : ∀ (fn : Fn) (first cap : Array Value) (w : World), (Instr.makeFunc fn first cap).run Tryz.prog w = .ok (.func fn first cap) w := fun _ _ _ _ => rfl
 have p0 : (((w.alloc (.cells #[.int .i64 m, .slice la l.length lc] 24)).alloc (.cells #[.slice sa S.st.length sc, .slice ra S.rd.length rc, .slice wa S.wr.length tc, .slice va S.vs.length vc] 29)).alloc (.cells #[.int .i64 0] 30)).cell? ⟨w.heap.size, 0, none⟩ = some (.int .i64 m) := aA (aB (aB (Below.refl _ _) _) _) (aE w _ 24 _ 0 _ rfl rfl)
 have p1 : (((w.alloc (.cells #[.int .i64 m, .slice la l.length lc] 24)).alloc (.cells #[.slice sa S.st.length sc, .slice ra S.rd.length rc, .slice wa S.wr.length tc, .slice va S.vs.length vc] 29)).alloc (.cells #[.int .i64 0] 30)).cell? ⟨w.heap.size, 1, none⟩ = some (.slice la l.length lc) := aA (aB (aB (Below.refl _ _) _) _) (aE w _ 24 _ 1 _ rfl rfl)
 have q0 : (((w.alloc (.cells #[.int .i64 m, .slice la l.length lc] 24)).alloc (.cells #[.slice sa S.st.length sc, .slice ra S.rd.length rc, .slice wa S.wr.length tc, .slice va S.vs.length vc] 29)).alloc (.cells #[.int .i64 0] 30)).cell? ⟨w.heap.size + 1, 0, none⟩ = some (.slice sa S.st.length sc) := aA (aB (Below.refl _ _) _) (aE _ _ 29 _ 0 _ (by simp) rfl)
 have q1 : (((w.alloc (.cells #[.int .i64 m, .slice la l.length lc] 24)).alloc (.cells #[.slice sa S.st.length sc, .slice ra S.rd.length rc, .slice wa S.wr.length tc, .slice va S.vs.length vc] 29)).alloc (.cells #[.int .i64 0] 30)).cell? ⟨w.heap.size + 1, 1, none⟩ = some (.slice ra S.rd.length rc) := aA (aB (Below.refl _ _) _) (aE _ _ 29 _ 1 _ (by simp) rfl)
 have q2 : (((w.alloc (.cells #[.int .i64 m, .slice la l.length lc] 24)).alloc (.cells #[.slice sa S.st.length sc, .slice ra S.rd.length rc, .slice wa S.wr.length tc, .slice va S.vs.length vc] 29)).alloc (.cells #[.int .i64 0] 30)).cell? ⟨w.heap.size + 1, 2, none⟩ = some (.slice wa S.wr.length tc) := aA (aB (Below.refl _ _) _) (aE _ _ 29 _ 2 _ (by simp) rfl)
 have q3 : (((w.alloc (.cells #[.int .i64 m, .slice la l.length lc] 24)).alloc (.cells #[.slice sa S.st.length sc, .slice ra S.rd.length rc, .slice wa S.wr.length tc, .slice va S.vs.length vc] 29)).alloc (.cells #[.int .i64 0] 30)).cell? ⟨w.heap.size + 1, 3, none⟩ = some (.slice va S.vs.length vc) := aA (aB (Below.refl _ _) _) (aE _ _ 29 _ 3 _ (by simp) rfl)
 have CC : Hid (Calls Tryz.prog 47 #[.func (.func 48) #[] #[.pointer (some ⟨w.heap.size, 0, none⟩), .pointer (some ⟨w.heap.size + 1, 0, none⟩)]] ((w.alloc (.cells #[.int .i64 m, .slice la l.length lc] 24)).alloc (.cells #[.slice sa S.st.length sc, .slice ra S.rd.length rc, .slice wa S.wr.length tc, .slice va S.vs.length vc] 29)) fun e w' => e = .returned (.tuple #[.bool (ovE m l S), .int .i64 (eF m l S)]) ∧ Below ((w.alloc (.cells #[.int .i64 m, .slice la l.length lc] 24)).alloc (.cells #[.slice sa S.st.length sc, .slice ra S.rd.length rc, .slice wa S.wr.length tc, .slice va S.vs.length vc] 29)).heap.size ((w.alloc (.cells #[.int .i64 m, .slice la l.length lc] 24)).alloc (.cells #[.slice sa S.st.length sc, .slice ra S.rd.length rc, .slice wa S.wr.length tc, .slice va S.vs.length vc] 29)) w') := by
  by_cases hE : eF m l S = 0
  ·have e1 : ovE m l S = cD m.toNat l S := if_pos hE
   obtain ⟨sh, rfl, _⟩ := dL hE
   rw [e1, hE]
   refine (caughtBo_ret 48 _ (fun _ => rfl) (fun v _ => v = .bool (cD sh l S)) _ (fun v w' h => h) ((over1_ok la lc l sa ra wa va sc rc tc vc S sh _ _ _ p0 p1 q0 q1 q2 q3 (hl.below hg) (hs.below hg) hE).mono ?_)).mono ?_
   ·rintro e w' ⟨rfl, hb⟩
    exact ⟨_, rfl, rfl, lR hb⟩
   ·rintro e w' ⟨v, rfl, h, hb⟩
    rw [h]
    exact ⟨rfl, hb⟩
  ·have e1 : ovE m l S = false := if_neg hE
   rw [e1]
   exact caughtBo_pan 48 _ (fun _ => rfl) _ _ (pan_up (over1_pan la lc l sa ra wa va sc rc tc vc S m _ _ _ p0 p1 q0 q1 q2 q3 (hl.below hg) (hs.below hg) hE))
 have HG : Hid (Below w.heap.size w ((w.alloc (.cells #[.int .i64 m, .slice la l.length lc] 24)).alloc (.cells #[.slice sa S.st.length sc, .slice ra S.rd.length rc, .slice wa S.wr.length tc, .slice va S.vs.length vc] 29))) := hU
 clear hg hU p0 p1 q0 q1 q2 q3 hl hs
 go_enter Tryz.func15, Tryz.ntmps15
 go_wp2_with fail
 refine CC.out.mono ?_
 clear CC
 rintro e w1 ⟨rfl, hb⟩
 have B1 : Hid (Below w.heap.size w w1) := aC HG.out hb
 clear hb
 go_wp2
 go_ret2
 exact ⟨rfl, B1.out⟩
set_option maxHeartbeats 1000000 in
theorem qN (m : Int) (w : World) (hl : IsTxs w la l) (hs : Sta w sa ra wa va S) :
  Calls Tryz.prog 24 #[.agg #[.int .i64 m, .slice la l.length lc], .agg #[.slice sa S.st.length sc, .slice ra S.rd.length rc, .slice wa S.wr.length tc, .slice va S.vs.length vc]] w fun e w' => ∃ a c, e = .returned (.tuple #[.slice a (bO m l S).length c, .int .i64 (eF m l S)]) ∧ eE w' a (bO m l S) ∧ Below w.heap.size w w' := by
 have hg : Below w.heap.size w (((w.alloc (.cells #[.int .i64 m, .slice la l.length lc] 24)).alloc (.cells #[.slice sa S.st.length sc, .slice ra S.rd.length rc, .slice wa S.wr.length tc, .slice va S.vs.length vc] 29)).alloc (.cells #[.int .i64 0] 30)) := aB (aB (aB (Below.refl _ _) _) _) _
 have hU : Hid (Below w.heap.size w ((w.alloc (.cells #[.int .i64 m, .slice la l.length lc] 24)).alloc (.cells #[.slice sa S.st.length sc, .slice ra S.rd.length rc, .slice wa S.wr.length tc, .slice va S.vs.length vc] 29))) := aB (aB (Below.refl _ _) _) _
 have hmf : ∀ (fn : Fn) (first cap : Array Value) (w : World), (Instr.makeFunc fn first cap).run Tryz.prog w = .ok (.func fn first cap) w := fun _ _ _ _ => rfl
 have p0 : (((w.alloc (.cells #[.int .i64 m, .slice la l.length lc] 24)).alloc (.cells #[.slice sa S.st.length sc, .slice ra S.rd.length rc, .slice wa S.wr.length tc, .slice va S.vs.length vc] 29)).alloc (.cells #[.int .i64 0] 30)).cell? ⟨w.heap.size, 0, none⟩ = some (.int .i64 m) := aA (aB (aB (Below.refl _ _) _) _) (aE w _ 24 _ 0 _ rfl rfl)
 have p1 : (((w.alloc (.cells #[.int .i64 m, .slice la l.length lc] 24)).alloc (.cells #[.slice sa S.st.length sc, .slice ra S.rd.length rc, .slice wa S.wr.length tc, .slice va S.vs.length vc] 29)).alloc (.cells #[.int .i64 0] 30)).cell? ⟨w.heap.size, 1, none⟩ = some (.slice la l.length lc) := aA (aB (aB (Below.refl _ _) _) _) (aE w _ 24 _ 1 _ rfl rfl)
 have q0 : (((w.alloc (.cells #[.int .i64 m, .slice la l.length lc] 24)).alloc (.cells #[.slice sa S.st.length sc, .slice ra S.rd.length rc, .slice wa S.wr.length tc, .slice va S.vs.length vc] 29)).alloc (.cells #[.int .i64 0] 30)).cell? ⟨w.heap.size + 1, 0, none⟩ = some (.slice sa S.st.length sc) := aA (aB (Below.refl _ _) _) (aE _ _ 29 _ 0 _ (by simp) rfl)
 have q1 : (((w.alloc (.cells #[.int .i64 m, .slice la l.length lc] 24)).alloc (.cells #[.slice sa S.st.length sc, .slice ra S.rd.length rc, .slice wa S.wr.length tc, .slice va S.vs.length vc] 29)).alloc (.cells #[.int .i64 0] 30)).cell? ⟨w.heap.size + 1, 1, none⟩ = some (.slice ra S.rd.length rc) := aA (aB (Below.refl _ _) _) (aE _ _ 29 _ 1 _ (by simp) rfl)
 have q2 : (((w.alloc (.cells #[.int .i64 m, .slice la l.length lc] 24)).alloc (.cells #[.slice sa S.st.length sc, .slice ra S.rd.length rc, .slice wa S.wr.length tc, .slice va S.vs.length vc] 29)).alloc (.cells #[.int .i64 0] 30)).cell? ⟨w.heap.size + 1, 2, none⟩ = some (.slice wa S.wr.length tc) := aA (aB (Below.refl _ _) _) (aE _ _ 29 _ 2 _ (by simp) rfl)
 have q3 : (((w.alloc (.cells #[.int .i64 m, .slice la l.length lc] 24)).alloc (.cells #[.slice sa S.st.length sc, .slice ra S.rd.length rc, .slice wa S.wr.length tc, .slice va S.vs.length vc] 29)).alloc (.cells #[.int .i64 0] 30)).cell? ⟨w.heap.size + 1, 3, none⟩ = some (.slice va S.vs.length vc) := aA (aB (Below.refl _ _) _) (aE _ _ 29 _ 3 _ (by simp) rfl)
 have CC : Hid (Calls Tryz.prog 62 #[.func (.func 63) #[] #[.pointer (some ⟨w.heap.size, 0, none⟩), .pointer (some ⟨w.heap.size + 1, 0, none⟩)]] ((w.alloc (.cells #[.int .i64 m, .slice la l.length lc] 24)).alloc (.cells #[.slice sa S.st.length sc, .slice ra S.rd.length rc, .slice wa S.wr.length tc, .slice va S.vs.length vc] 29)) fun e w' => ∃ a c, e = .returned (.tuple #[.slice a (bO m l S).length c, .int .i64 (eF m l S)]) ∧ eE w' a (bO m l S) ∧ Below ((w.alloc (.cells #[.int .i64 m, .slice la l.length lc] 24)).alloc (.cells #[.slice sa S.st.length sc, .slice ra S.rd.length rc, .slice wa S.wr.length tc, .slice va S.vs.length vc] 29)).heap.size ((w.alloc (.cells #[.int .i64 m, .slice la l.length lc] 24)).alloc (.cells #[.slice sa S.st.length sc, .slice ra S.rd.length rc, .slice wa S.wr.length tc, .slice va S.vs.length vc] 29)) w') := by
  by_cases hE : eF m l S = 0
  ·have e1 : bO m l S = bD m.toNat l S := if_pos hE
   obtain ⟨sh, rfl, _⟩ := dL hE
   rw [e1, hE]
   refine (caughtSp_ret 63 _ (fun _ => rfl) (fun v w' => w'.ownsRow (((w.alloc (.cells #[.int .i64 (sh : Int), .slice la l.length lc] 24)).alloc (.cells #[.slice sa S.st.length sc, .slice ra S.rd.length rc, .slice wa S.wr.length tc, .slice va S.vs.length vc] 29)).heap.size + 1) 48 3 v (bD sh l S).length (aR (bD sh l S))) _ (fun v w' h => dT h (cJ w' _ 0 _) (fun j e q => by have := (h.lt j e).1; injection q with q; omega)) ((can1_ok la lc l sa ra wa va sc rc tc vc S sh _ _ _ p0 p1 q0 q1 q2 q3 (hl.below hg) (hs.below hg) hE).mono ?_)).mono ?_
   ·rintro e w' ⟨v, rfl, ho, hb⟩
    exact ⟨_, rfl, by simpa using ho, lR hb⟩
   ·rintro e w' ⟨v, rfl, ho, hb⟩
    obtain ⟨a, c, rfl, h⟩ := iC ho rfl
    exact ⟨a, c, rfl, h, hb⟩
  ·have e1 : bO m l S = [] := if_neg hE
   rw [e1]
   refine (caughtSp_pan 63 _ (fun _ => rfl) _ _ (pan_up (can1_pan la lc l sa ra wa va sc rc tc vc S m _ _ _ p0 p1 q0 q1 q2 q3 (hl.below hg) (hs.below hg) hE))).mono ?_
   rintro e w' ⟨rfl, hb⟩
   exact ⟨none, 0, rfl, fun _ hi => absurd hi (Nat.not_lt_zero _), hb⟩
 have HG : Hid (Below w.heap.size w ((w.alloc (.cells #[.int .i64 m, .slice la l.length lc] 24)).alloc (.cells #[.slice sa S.st.length sc, .slice ra S.rd.length rc, .slice wa S.wr.length tc, .slice va S.vs.length vc] 29))) := hU
 clear hg hU p0 p1 q0 q1 q2 q3 hl hs
 go_enter Tryz.func24, Tryz.ntmps24
 go_wp2_with fail
 refine CC.out.mono ?_
 clear CC
 rintro e w1 ⟨a, c, rfl, h, hb⟩
 have B1 : Hid (Below w.heap.size w w1) := aC HG.out hb
 have H1 : Hid (eE w1 a (bO m l S)) := h
 clear hb h
 go_wp2
 go_ret2
 exact ⟨a, c, rfl, H1.out, B1.out⟩
end Go.Proofs.YtebjkmknhpgemaaGreat
namespace Go.Proofs.YtebjkmknhpgemaaGreat
open Go.RowKit
variable (la : Option Addr) (lc : Nat) (l : List TxA) (sa ra wa va : Option Addr) (sc rc tc vc : Nat) (S : SA)
set_option maxHeartbeats 2000000 in
theorem oR (sh n : Nat) (w : World) (hl : IsTxs w la l) (hs : Sta w sa ra wa va S) (hp : pnE sh l n = 0) (hF : Form sh l S) (hn : n < l.length) (_h8 : l.length ≤ 8) (h0 : 0 < sh) (h4 : sh ≤ 4) :
  Calls Tryz.prog 55 #[.agg #[.int .i64 (sh : Int), .slice la l.length lc], .agg #[.slice sa S.st.length sc, .slice ra S.rd.length rc, .slice wa S.wr.length tc, .slice va S.vs.length vc], .int .i64 n] w fun e w' => e = .returned (.bool (dE sh l S n)) ∧ Below w.heap.size w w' := by
 obtain ⟨W, hWe⟩ : ∃ W : World, W = ((w.alloc (.cells #[.int .i64 (sh : Int), .slice la l.length lc] 24)).alloc (.cells #[.slice sa S.st.length sc, .slice ra S.rd.length rc, .slice wa S.wr.length tc, .slice va S.vs.length vc] 29)) := ⟨_, rfl⟩
 have hW : Hid (Below w.heap.size w W) := by subst hWe; exact aB (aB (Below.refl _ _) _) _
 have p0 : W.cell? ⟨w.heap.size, 0, none⟩ = some (.int .i64 (sh : Int)) := by subst hWe; exact aA (aB (Below.refl _ _) _) (aE w _ 24 _ 0 _ rfl rfl)
 have p1 : W.cell? ⟨w.heap.size, 1, none⟩ = some (.slice la l.length lc) := by subst hWe; exact aA (aB (Below.refl _ _) _) (aE w _ 24 _ 1 _ rfl rfl)
 have q1 : W.cell? ⟨w.heap.size + 1, 1, none⟩ = some (.slice ra S.rd.length rc) := by subst hWe; exact aE _ _ 29 _ 1 _ (by simp) rfl
 have CP : Hid (Calls Tryz.prog 53 #[.agg #[.int .i64 sh, .slice la l.length lc], .int .i64 n] W fun e w' => ∃ a c, e = .returned (.slice a (aQ sh (aM (aJ l n))).length c) ∧ IsBools w' a (aQ sh (aM (aJ l n))) ∧ Below W.heap.size W w') := iQ la lc l sh n _ (hl.below hW.out) hp
 have HS : Hid (Sta W sa ra wa va S) := hs.below hW.out
 have HM : Hid (∀ k, (aQ sh (aM (aJ l n))).getD k false = fE sh (gX l n) k) := fun _ => rfl
 have HL : Hid ((aQ sh (aM (aJ l n))).length = sh) := bY _ _
 have HF : Hid (Form sh l S) := hF
 have HA : Hid (dE sh l S n = (List.range sh).all (fun k => !fE sh (gX l n) k || bW S.rd n k)) := rfl
 clear hl hs hF hp
 generalize dE sh l S n = R at *
 have HWe : Hid (W = _) := hWe
 clear hWe
 go_enter Tryz.func55, Tryz.ntmps55
 go_upto_region 1 with fail
 rw [← HWe.out]
 clear HWe
 go_wp2_with fail
 refine CP.out.mono ?_
 rintro e w1 ⟨a, c, rfl, hbs, hb1⟩
 have B1 : Hid (Below w.heap.size w w1) := aC hW.out hb1
 have HB : Hid (IsBools w1 a (aQ sh (aM (aJ l n)))) := hbs
 have x0 := aA hb1 p0
 have y1 := aA hb1 q1
 obtain ⟨b4, o4, b5, o5, c5, e4, _, _, z4, z5⟩ := (HS.out.below hb1).rd.rows HF.out.rd HF.out.rn h0 n hn
 have Z5 : Hid (∀ k, k < sh → w1.cell? ⟨b5, o5 + k, none⟩ = some (.bool (bW S.rd n k))) := z5
 rw [e4, HF.out.rd] at y1
 clear CP hbs hb1 p0 p1 q1 z5 e4
 rw [HL.out]
 go_wp2
 go_loop [8] (fun i => ∃ k : Nat, k ≤ sh ∧ i = .int .i64 k ∧ Hid ((List.range k).all (fun k => !fE sh (gX l n) k || bW S.rd n k) = true)) (fun i => sh - (intOf i).toNat)
 case atStart => exact ⟨0, Nat.zero_le _, rfl, rfl⟩
 case round =>
  obtain ⟨k, hk, rfl, hall⟩ := hrel
  by_cases hlt : k < sh
  ·obtain ⟨b1, o1, ea, _, d1⟩ := HB.out k (by rw [HL.out]; exact hlt)
   subst ea
   rw [HM.out k] at d1
   have d4 := Z5.out k hlt
   have hstep : Hid ((List.range (k + 1)).all (fun k => !fE sh (gX l n) k || bW S.rd n k) = (!fE sh (gX l n) k || bW S.rd n k)) := by
    show _ = _
    rw [kP, hall.out, Bool.true_and]
   have hstop : Hid ((!fE sh (gX l n) k || bW S.rd n k) = false → R = false) := fun e => by rw [HA.out]; exact fZ hlt e
   have i1 : (k : Int) < (sh : Int) := by omega
   generalize fE sh (gX l n) k = P at *
   generalize bW S.rd n k = Q at *
   clear hall
   cases P
   ·go_wp2
    go_round
    case rel => exact ⟨k + 1, by omega, by go_num, by show _ = _; rw [hstep.out]; rfl⟩
    case measure => simp [intOf]; omega
   ·cases Q
    ·have HR : Hid (R = false) := hstop.out rfl
     clear hstop hstep
     go_wp2
     go_ret
     exact ⟨by rw [HR.out]; rfl, B1.out⟩
    ·go_wp2
     go_round
     case rel => exact ⟨k + 1, by omega, by go_num, by show _ = _; rw [hstep.out]; rfl⟩
     case measure => simp [intOf]; omega
  ·have hkk : k = sh := by omega
   subst hkk
   have HR : Hid (R = true) := by show _ = _; rw [HA.out]; exact hall.out
   have i1 : ¬ (k : Int) < (k : Int) := by omega
   go_wp2
   go_ret
   exact ⟨by rw [HR.out]; rfl, B1.out⟩
set_option maxHeartbeats 2000000 in
theorem nB (sh n k : Nat) (w : World) (hl : IsTxs w la l) (hs : Sta w sa ra wa va S) (hp : pnE sh l n = 0) (hF : Form sh l S) (hn : n < l.length) (hk : k < sh) (h4 : sh ≤ 4) :
  Calls Tryz.prog 61 #[.agg #[.int .i64 (sh : Int), .slice la l.length lc], .agg #[.slice sa S.st.length sc, .slice ra S.rd.length rc, .slice wa S.wr.length tc, .slice va S.vs.length vc], .int .i64 n, .int .i64 k] w fun e w' => e = .returned (.bool (aU sh l S n k)) ∧ Below w.heap.size w w' := by
 have h0 : 0 < sh := by omega
 obtain ⟨W, hWe⟩ : ∃ W : World, W = ((w.alloc (.cells #[.int .i64 (sh : Int), .slice la l.length lc] 24)).alloc (.cells #[.slice sa S.st.length sc, .slice ra S.rd.length rc, .slice wa S.wr.length tc, .slice va S.vs.length vc] 29)) := ⟨_, rfl⟩
 have hW : Hid (Below w.heap.size w W) := by subst hWe; exact aB (aB (Below.refl _ _) _) _
 have p0 : W.cell? ⟨w.heap.size, 0, none⟩ = some (.int .i64 (sh : Int)) := by subst hWe; exact aA (aB (Below.refl _ _) _) (aE w _ 24 _ 0 _ rfl rfl)
 have p1 : W.cell? ⟨w.heap.size, 1, none⟩ = some (.slice la l.length lc) := by subst hWe; exact aA (aB (Below.refl _ _) _) (aE w _ 24 _ 1 _ rfl rfl)
 have q1 : W.cell? ⟨w.heap.size + 1, 1, none⟩ = some (.slice ra S.rd.length rc) := by subst hWe; exact aE _ _ 29 _ 1 _ (by simp) rfl
 have q2 : W.cell? ⟨w.heap.size + 1, 2, none⟩ = some (.slice wa S.wr.length tc) := by subst hWe; exact aE _ _ 29 _ 2 _ (by simp) rfl
 have CP : Hid (Calls Tryz.prog 53 #[.agg #[.int .i64 sh, .slice la l.length lc], .int .i64 n] W fun e w' => ∃ a c, e = .returned (.slice a (aQ sh (aM (aJ l n))).length c) ∧ IsBools w' a (aQ sh (aM (aJ l n))) ∧ Below W.heap.size W w') := iQ la lc l sh n _ (hl.below hW.out) hp
 have CA : Hid (∀ w1, Below W.heap.size W w1 → Calls Tryz.prog 54 #[.agg #[.int .i64 sh, .slice la l.length lc], .int .i64 n] w1 fun e w' => ∃ a c, e = .returned (.slice a (aQ sh (aL (aJ l n))).length c) ∧ IsBools w' a (aQ sh (aL (aJ l n))) ∧ Below w1.heap.size w1 w') := fun w1 hb => gK la lc l sh n _ ((hl.below hW.out).below hb) hp
 have HS : Hid (Sta W sa ra wa va S) := hs.below hW.out
 have HM : Hid ((aQ sh (aM (aJ l n))).getD k false = fE sh (gX l n) k) := rfl
 have HM2 : Hid ((aQ sh (aL (aJ l n))).getD k false = iW sh (gX l n) k) := rfl
 have HL : Hid ((aQ sh (aM (aJ l n))).length = sh) := bY _ _
 have HL2 : Hid ((aQ sh (aL (aJ l n))).length = sh) := bY _ _
 have HF : Hid (Form sh l S) := hF
 have HR : Hid (aU sh l S n k = if fE sh (gX l n) k = true then (if iW sh (gX l n) k = true then bW S.wr n k else bW S.rd n k) else true) := by
  show _ = _
  unfold aU
  cases fE sh (gX l n) k <;> cases iW sh (gX l n) k <;> rfl
 clear hl hs hF hp
 generalize aU sh l S n k = R at *
 have HWe : Hid (W = _) := hWe
 clear hWe
 go_enter Tryz.func61, Tryz.ntmps61
 go_upto_region 1 with fail
 rw [← HWe.out]
 clear HWe
 go_wp2_with fail
 refine CP.out.mono ?_
 rintro e w1 ⟨a, c, rfl, hbs, hb1⟩
 have B1 : Hid (Below W.heap.size W w1) := hb1
 obtain ⟨b1, o1, ea, _, d1⟩ := hbs k (by rw [HL.out]; exact hk)
 subst ea
 rw [HM.out] at d1
 rw [HL.out]
 have x0 := aA hb1 p0
 have x1 := aA hb1 p1
 clear CP hbs hb1
 generalize fE sh (gX l n) k = P at *
 cases P
 ·have HR' : Hid (R = true) := by show _ = _; rw [HR.out]; rfl
  have BF : Hid (Below w.heap.size w w1) := aC hW.out B1.out
  clear HR
  go_wp2
  go_ret
  exact ⟨by rw [HR'.out]; rfl, BF.out⟩
 ·go_wp2_with fail
  refine (CA.out _ B1.out).mono ?_
  rintro e w2 ⟨a, c, rfl, hbs, hb2⟩
  have B2 : Hid (Below W.heap.size W w2) := aC B1.out hb2
  obtain ⟨b3, o3, ea, _, d3⟩ := hbs k (by rw [HL2.out]; exact hk)
  subst ea
  rw [HM2.out] at d3
  rw [HL2.out]
  have y1 := aA B2.out q1
  have y2 := aA B2.out q2
  obtain ⟨b4, o4, b5, o5, c5, e4, _, _, z4, z5⟩ := (HS.out.below B2.out).rd.rows HF.out.rd HF.out.rn h0 n hn
  obtain ⟨b6, o6, b7, o7, c7, e6, _, _, z6, z7⟩ := (HS.out.below B2.out).wr.rows HF.out.wr HF.out.wn h0 n hn
  have z5 := z5 k hk
  have z7 := z7 k hk
  rw [e4, HF.out.rd] at y1
  rw [e6, HF.out.wr] at y2
  have BF : Hid (Below w.heap.size w w2) := aC hW.out B2.out
  clear CA hbs hb2 e4 e6 d1 x0 x1
  generalize iW sh (gX l n) k = Q at *
  cases Q
  ·have HR' : Hid (R = bW S.rd n k) := by show _ = _; rw [HR.out]; rfl
   clear HR
   go_wp2
   go_ret
   exact ⟨by rw [HR'.out]; rfl, BF.out⟩
  ·have HR' : Hid (R = bW S.wr n k) := by show _ = _; rw [HR.out]; rfl
   clear HR
   go_wp2
   go_ret
   exact ⟨by rw [HR'.out]; rfl, BF.out⟩
end Go.Proofs.YtebjkmknhpgemaaGreat
namespace Go.Proofs.YtebjkmknhpgemaaGreat
open Go.RowKit
theorem Hid.of {p : Prop} (h : p) : Hid p := h
theorem pnE_in {sh : Nat} {l : List TxA} (hp : aP (sh : Int) l = 0) {n : Nat} (hn : n < l.length) : pnE sh l n = 0 := by
 have e : iX (n : Int) l.length = 0 := by
  unfold iX
  rw [if_neg (by omega)]
 unfold pnE
 rw [hp, e]; rfl
variable (la : Option Addr) (lc : Nat) (l : List TxA) (sa ra wa va : Option Addr) (sc rc tc vc : Nat) (S : SA)
set_option maxHeartbeats 2000000 in
theorem docOver_any (sh : Nat) (w : World) (hl : IsTxs w la l) (hs : Sta w sa ra wa va S) (hp : aP (sh : Int) l = 0) (hF : Form sh l S) :
  Calls Tryz.prog 23 #[.agg #[.int .i64 (sh : Int), .slice la l.length lc], .agg #[.slice sa S.st.length sc, .slice ra S.rd.length rc, .slice wa S.wr.length tc, .slice va S.vs.length vc]] w fun e w' => e = .returned (.bool (cD sh l S)) ∧ Below w.heap.size w w' := by
 have hz := aX hp
 have hl8 := dC hz.2.2
 have h4 : sh ≤ 4 := by omega
 obtain ⟨W, hWe⟩ : ∃ W : World, W = ((w.alloc (.cells #[.int .i64 (sh : Int), .slice la l.length lc] 24)).alloc (.cells #[.slice sa S.st.length sc, .slice ra S.rd.length rc, .slice wa S.wr.length tc, .slice va S.vs.length vc] 29)) := ⟨_, rfl⟩
 have hW : Hid (Below w.heap.size w W) := by subst hWe; exact aB (aB (Below.refl _ _) _) _
 have p0 : W.cell? ⟨w.heap.size, 0, none⟩ = some (.int .i64 (sh : Int)) := by subst hWe; exact aA (aB (Below.refl _ _) _) (aE w _ 24 _ 0 _ rfl rfl)
 have p1 : W.cell? ⟨w.heap.size, 1, none⟩ = some (.slice la l.length lc) := by subst hWe; exact aA (aB (Below.refl _ _) _) (aE w _ 24 _ 1 _ rfl rfl)
 have q0 : W.cell? ⟨w.heap.size + 1, 0, none⟩ = some (.slice sa S.st.length sc) := by subst hWe; exact aE _ _ 29 _ 0 _ (by simp) rfl
 have q1 : W.cell? ⟨w.heap.size + 1, 1, none⟩ = some (.slice ra S.rd.length rc) := by subst hWe; exact aE _ _ 29 _ 1 _ (by simp) rfl
 have q2 : W.cell? ⟨w.heap.size + 1, 2, none⟩ = some (.slice wa S.wr.length tc) := by subst hWe; exact aE _ _ 29 _ 2 _ (by simp) rfl
 have q3 : W.cell? ⟨w.heap.size + 1, 3, none⟩ = some (.slice va S.vs.length vc) := by subst hWe; exact aE _ _ 29 _ 3 _ (by simp) rfl
 have KEEP : Hid (∀ w', Below W.heap.size W w' → w'.cell? ⟨w.heap.size, 0, none⟩ = some (.int .i64 (sh : Int)) ∧ w'.cell? ⟨w.heap.size, 1, none⟩ = some (.slice la l.length lc) ∧ w'.cell? ⟨w.heap.size + 1, 0, none⟩ = some (.slice sa S.st.length sc) ∧ w'.cell? ⟨w.heap.size + 1, 1, none⟩ = some (.slice ra S.rd.length rc) ∧ w'.cell? ⟨w.heap.size + 1, 2, none⟩ = some (.slice wa S.wr.length tc) ∧ w'.cell? ⟨w.heap.size + 1, 3, none⟩ = some (.slice va S.vs.length vc)) := fun w' hb => ⟨aA hb p0, aA hb p1, aA hb q0, aA hb q1, aA hb q2, aA hb q3⟩
 have CG : Hid (∀ w' n k, Below W.heap.size W w' → n < l.length → k < sh → Calls Tryz.prog 61 #[.agg #[.int .i64 (sh : Int), .slice la l.length lc], .agg #[.slice sa S.st.length sc, .slice ra S.rd.length rc, .slice wa S.wr.length tc, .slice va S.vs.length vc], .int .i64 (n : Int), .int .i64 (k : Int)] w' fun e w'' => e = .returned (.bool (aU sh l S n k)) ∧ Below w'.heap.size w' w'') := fun w' n k hb hn hk => nB la lc l sa ra wa va sc rc tc vc S sh n k w' ((hl.below hW.out).below hb) ((hs.below hW.out).below hb) (pnE_in hp hn) hF hn hk h4
 have HF : Hid (cD sh l S = eZ sh l S l.length) := rfl
 have HS : Hid (∀ n, eZ sh l S (n + 1) = (eZ sh l S n && (List.range sh).all (aU sh l S n))) := mT sh l S
 have HB : Hid (∀ n k, n < l.length → k < sh → aU sh l S n k = false → cD sh l S = false) := fun n k hn hk e => fZ hn (fZ hk e)
 have H0 : Hid (eZ sh l S 0 = true) := rfl
 clear hl hs hp hF hz p0 p1 q0 q1 q2 q3
 generalize cD sh l S = R at *
 generalize hot : eZ sh l S = ot at *
 clear hot
 have HWe : Hid (W = _) := hWe
 clear hWe
 go_enter Tryz.func23, Tryz.ntmps23
 go_upto_region 1 with fail
 rw [← HWe.out]
 clear HWe
 go_wp2
 go_loopw [5, 6] (fun i _ wr => ∃ n : Nat, n ≤ l.length ∧ i = .int .i64 n ∧ Hid (ot n = true) ∧ Hid (Below W.heap.size W wr)) (fun i _ _ => l.length - (intOf i).toNat)
 case atStart => exact ⟨0, Nat.zero_le _, rfl, H0, Below.refl _ _⟩
 case round =>
  obtain ⟨n, hn, rfl, hall, hB⟩ := hrel
  obtain ⟨p0, p1, q0, q1, q2, q3⟩ := KEEP.out wr hB.out
  by_cases hlt : n < l.length
  ·have i1 : (n : Int) < (l.length : Int) := by omega
   have HN : Hid ((List.range sh).all (aU sh l S n) = true → ot (n + 1) = true) := fun e => by rw [HS.out, hall.out, e]; rfl
   clear hall
   go_wp2
   clear p0 p1 q0 q1 q2 q3
   go_loopw [6] (fun j wq => ∃ k : Nat, k ≤ sh ∧ j = .int .i64 k ∧ Hid ((List.range k).all (aU sh l S n) = true) ∧ Hid (Below W.heap.size W wq)) (fun j _ => sh - (intOf j).toNat)
   case atStart => exact ⟨0, Nat.zero_le _, rfl, rfl, hB⟩
   case round =>
    clear hB
    obtain ⟨k, hk, rfl, hal, hB⟩ := hrel
    obtain ⟨p0, p1, q0, q1, q2, q3⟩ := KEEP.out _ hB.out
    by_cases hlt2 : k < sh
    ·have j1 : (k : Int) < (sh : Int) := by omega
     have HT : Hid ((List.range (k + 1)).all (aU sh l S n) = aU sh l S n k) := by show _ = _; rw [kP, hal.out, Bool.true_and]
     have HBk : Hid (aU sh l S n k = false → R = false) := HB.out n k hlt hlt2
     have CGh := Hid.of (CG.out _ n k hB.out hlt hlt2)
     clear hal
     generalize hg : aU sh l S n k = G at HT HBk CGh
     clear hg
     cases G
     ·have HR : Hid (R = false) := HBk.out rfl
      clear HT HBk
      go_wp2_with fail
      refine CGh.out.mono ?_
      rintro e w2 ⟨rfl, hw2⟩
      have BF : Hid (Below w.heap.size w w2) := aC hW.out (aC hB.out hw2)
      clear CGh hw2 p0 p1 q0 q1 q2 q3
      go_wp2
      go_ret
      exact ⟨by rw [HR.out]; rfl, BF.out⟩
     ·clear HBk
      go_wp2_with fail
      refine CGh.out.mono ?_
      rintro e w2 ⟨rfl, hw2⟩
      have BF : Hid (Below W.heap.size W w2) := aC hB.out hw2
      clear CGh hw2 p0 p1 q0 q1 q2 q3
      go_wp2
      go_roundw
      case rel => exact ⟨k + 1, by omega, by go_num, HT.out, BF⟩
      case measure => simp [intOf]; omega
    ·have hkk : k = sh := by omega
     have j1 : ¬ (k : Int) < (sh : Int) := by omega
     have HT : Hid (ot (n + 1) = true) := HN.out (by have := hal.out; rw [hkk] at this; exact this)
     clear hal HN
     go_wp2
     go_roundw
     case rel => exact ⟨n + 1, by omega, by go_num, HT, hB⟩
     case measure => simp [intOf]; omega
  ·have hnn : n = l.length := by omega
   have i1 : ¬ (n : Int) < (l.length : Int) := by omega
   have HR : Hid (R = true) := by have := hall.out; rw [hnn] at this; exact HF.out.trans this
   have BF : Hid (Below w.heap.size w wr) := aC hW.out hB.out
   clear hall
   go_wp2
   go_ret
   exact ⟨by rw [HR.out]; rfl, BF.out⟩
end Go.Proofs.YtebjkmknhpgemaaGreat
