/-
  
  Conditions: those that each theorem states.
-/
import Derived.Test.YtebjkmknhpgemaaGreatSDocC
set_option maxRecDepth 100000
namespace Go.Proofs.YtebjkmknhpgemaaGreat
open Go.RowKit
theorem IsBB.row {w : World} {a : Option Addr} {rows : List (List Bool)} (h : IsBB w a rows) {n sh : Nat} (hn : n < rows.length) (hs : (rows.getD n []).length = sh) (h0 : 0 < sh) : ∃ b4 o4 b5 o5 c5, a = some ⟨b4, o4, none⟩ ∧ w.cell? ⟨b4, o4 + n, none⟩ = some (.slice (some ⟨b5, o5, none⟩) sh c5) ∧ ∀ k, k < sh → w.cell? ⟨b5, o5 + k, none⟩ = some (.bool (at2 rows n k)) := by
 obtain ⟨b, off, a', c', ha, _, hc, hb, _⟩ := h n hn
 rw [hs] at hc
 obtain ⟨b5, o5, rfl, _, _⟩ := hb 0 (by rw [hs]; exact h0)
 refine ⟨b, off, b5, o5, c', ha, hc, fun k hk => ?_⟩
 obtain ⟨b6, o6, e, _, d⟩ := hb k (by rw [hs]; exact hk)
 cases e
 exact d
def rowB (sh : Nat) (l : List TxA) (S : SA) (n k : Nat) : Bool := (!at2 S.rd n k || ptB sh (gX l n) k) && (!at2 S.wr n k || (acB sh (gX l n) k && allRd sh l S n))
def rowF (sh : Nat) (l : List TxA) (S : SA) (n : Nat) : Bool := decide ((S.rd.getD n []).length = sh) && decide ((S.wr.getD n []).length = sh) && decide ((S.vs.getD n []).length = (gX l n).rs.length)
def rowC (sh : Nat) (l : List TxA) (S : SA) (n : Nat) : Bool := rowF sh l S n && (List.range sh).all (rowB sh l S n)
def lens (l : List TxA) (S : SA) : Bool := decide (S.st.length = 8) && decide (S.rd.length = l.length) && decide (S.wr.length = l.length) && decide (S.vs.length = l.length)
theorem form_rows (sh : Nat) (l : List TxA) (S : SA) : (formB sh l S && truthB sh l S) = (lens l S && (List.range l.length).all (rowC sh l S)) := by
 have e1 : formB sh l S = (lens l S && (List.range l.length).all (rowF sh l S)) := rfl
 have e2 : truthB sh l S = (List.range l.length).all (fun n => (List.range sh).all (rowB sh l S n)) := rfl
 rw [e1, e2, Bool.and_assoc]
 congr 1
 rw [Bool.eq_iff_iff]
 simp only [Bool.and_eq_true, List.all_eq_true]
 constructor
 ·rintro ⟨h1, h2⟩ n hn
  unfold rowC
  rw [h1 n hn, Bool.true_and, List.all_eq_true]
  exact h2 n hn
 ·intro h
  constructor
  ·intro n hn
   have := h n hn
   unfold rowC at this
   rw [Bool.and_eq_true] at this
   exact this.1
  ·intro n hn
   have := h n hn
   unfold rowC at this
   rw [Bool.and_eq_true, List.all_eq_true] at this
   exact this.2
variable (la : Option Addr) (lc : Nat) (l : List TxA) (sa ra wa va : Option Addr) (sc rc tc vc : Nat) (S : SA)
set_option maxHeartbeats 2000000 in
theorem docAllRead_row (sh n : Nat) (w : World) (hl : IsTxs w la l) (hs : Sta w sa ra wa va S) (hp : pnE sh l n = 0) (hrl : S.rd.length = l.length) (hrw : (S.rd.getD n []).length = sh) (hn : n < l.length) (h0 : 0 < sh) (h4 : sh ≤ 4) (_h8 : l.length ≤ 8) :
  Calls Tryz.prog 55 #[.agg #[.int .i64 (sh : Int), .slice la l.length lc], .agg #[.slice sa S.st.length sc, .slice ra S.rd.length rc, .slice wa S.wr.length tc, .slice va S.vs.length vc], .int .i64 n] w fun e w' => e = .returned (.bool (allRd sh l S n)) ∧ Below w.heap.size w w' := by
 obtain ⟨W, hWe⟩ : ∃ W : World, W = ((w.alloc (.cells #[.int .i64 (sh : Int), .slice la l.length lc] 24)).alloc (.cells #[.slice sa S.st.length sc, .slice ra S.rd.length rc, .slice wa S.wr.length tc, .slice va S.vs.length vc] 29)) := ⟨_, rfl⟩
 have hW : Hid (Below w.heap.size w W) := by subst hWe; exact grow_alloc (grow_alloc (Below.refl _ _) _) _
 have p0 : W.cell? ⟨w.heap.size, 0, none⟩ = some (.int .i64 (sh : Int)) := by subst hWe; exact ext_cell (grow_alloc (Below.refl _ _) _) (at_new w _ 24 _ 0 _ rfl rfl)
 have p1 : W.cell? ⟨w.heap.size, 1, none⟩ = some (.slice la l.length lc) := by subst hWe; exact ext_cell (grow_alloc (Below.refl _ _) _) (at_new w _ 24 _ 1 _ rfl rfl)
 have q1 : W.cell? ⟨w.heap.size + 1, 1, none⟩ = some (.slice ra S.rd.length rc) := by subst hWe; exact at_new _ _ 29 _ 1 _ (by simp) rfl
 have CP : Hid (Calls Tryz.prog 53 #[.agg #[.int .i64 sh, .slice la l.length lc], .int .i64 n] W fun e w' => ∃ a c, e = .returned (.slice a (marks sh (keysIn (locksAt l n))).length c) ∧ IsBools w' a (marks sh (keysIn (locksAt l n))) ∧ Below W.heap.size W w') := partOf_any la lc l sh n _ (hl.below hW.out) hp
 have HS : Hid (Sta W sa ra wa va S) := hs.below hW.out
 have HM : Hid (∀ k, (marks sh (keysIn (locksAt l n))).getD k false = ptB sh (gX l n) k) := fun _ => rfl
 have HL : Hid ((marks sh (keysIn (locksAt l n))).length = sh) := marks_len _ _
 have HRL : Hid (S.rd.length = l.length) := hrl
 have HRW : Hid ((S.rd.getD n []).length = sh) := hrw
 have HA : Hid (allRd sh l S n = (List.range sh).all (fun k => !ptB sh (gX l n) k || at2 S.rd n k)) := rfl
 clear hl hs hp hrl hrw
 generalize allRd sh l S n = R at *
 have HWe : Hid (W = _) := hWe
 clear hWe
 go_enter Tryz.func55, Tryz.ntmps55
 go_upto_region 1 with fail
 rw [← HWe.out]
 clear HWe
 go_wp2_with fail
 refine CP.out.mono ?_
 rintro e w1 ⟨a, c, rfl, hbs, hb1⟩
 have B1 : Hid (Below w.heap.size w w1) := grow_trans hW.out hb1
 have HB : Hid (IsBools w1 a (marks sh (keysIn (locksAt l n)))) := hbs
 have x0 := ext_cell hb1 p0
 have y1 := ext_cell hb1 q1
 obtain ⟨b4, o4, b5, o5, c5, e4, z4, z5⟩ := (HS.out.below hb1).rd.row (n := n) (by rw [HRL.out]; exact hn) HRW.out h0
 have Z5 : Hid (∀ k, k < sh → w1.cell? ⟨b5, o5 + k, none⟩ = some (.bool (at2 S.rd n k))) := z5
 rw [e4, HRL.out] at y1
 clear CP hbs hb1 p0 p1 q1 z5 e4
 rw [HL.out]
 go_wp2
 go_loop [8] (fun i => ∃ k : Nat, k ≤ sh ∧ i = .int .i64 k ∧ Hid ((List.range k).all (fun k => !ptB sh (gX l n) k || at2 S.rd n k) = true)) (fun i => sh - (intOf i).toNat)
 case atStart => exact ⟨0, Nat.zero_le _, rfl, rfl⟩
 case round =>
  obtain ⟨k, hk, rfl, hall⟩ := hrel
  by_cases hlt : k < sh
  ·obtain ⟨b1, o1, ea, _, d1⟩ := HB.out k (by rw [HL.out]; exact hlt)
   subst ea
   rw [HM.out k] at d1
   have d4 := Z5.out k hlt
   have hstep : Hid ((List.range (k + 1)).all (fun k => !ptB sh (gX l n) k || at2 S.rd n k) = (!ptB sh (gX l n) k || at2 S.rd n k)) := by
    show _ = _
    rw [all_to, hall.out, Bool.true_and]
   have hstop : Hid ((!ptB sh (gX l n) k || at2 S.rd n k) = false → R = false) := fun e => by rw [HA.out]; exact all_stop hlt e
   have i1 : (k : Int) < (sh : Int) := by omega
   generalize ptB sh (gX l n) k = P at *
   generalize at2 S.rd n k = Q at *
   clear hall
   cases P
   ·go_wp2
    go_round
    case rel => exact ⟨k + 1, by omega, by go_num, by show _ = _; rw [hstep.out]; rfl⟩
    case measure => simp [intOf]; omega
   ·cases Q
    ·have HR : Hid (R = false) := hstop.out rfl
     clear hstop hstep
     go_wp2
     go_ret
     exact ⟨by rw [HR.out]; rfl, B1.out⟩
    ·go_wp2
     go_round
     case rel => exact ⟨k + 1, by omega, by go_num, by show _ = _; rw [hstep.out]; rfl⟩
     case measure => simp [intOf]; omega
  ·have hkk : k = sh := by omega
   subst hkk
   have HR : Hid (R = true) := by show _ = _; rw [HA.out]; exact hall.out
   have i1 : ¬ (k : Int) < (k : Int) := by omega
   go_wp2
   go_ret
   exact ⟨by rw [HR.out]; rfl, B1.out⟩
set_option maxHeartbeats 8000000 in
theorem docCheck_ok (sh : Nat) (w : World) (hl : IsTxs w la l) (hs : Sta w sa ra wa va S) (hp : planE sh l = 0) :
  Calls Tryz.prog 19 #[.agg #[.int .i64 (sh : Int), .slice la l.length lc], .agg #[.slice sa S.st.length sc, .slice ra S.rd.length rc, .slice wa S.wr.length tc, .slice va S.vs.length vc]] w fun e w' => e = .returned (.int .i64 (stE sh l S)) ∧ Below w.heap.size w w' := by
 obtain ⟨h1, h4', hc⟩ := planE_zero hp
 have h0 : 0 < sh := by omega
 have h4 : sh ≤ 4 := by omega
 have h8 := chkL_len hc
 have hpn : ∀ a, a < l.length → pnE sh l a = 0 := fun a ha => pnE_in hp ha
 obtain ⟨W, hWe⟩ : ∃ W : World, W = ((w.alloc (.cells #[.int .i64 (sh : Int), .slice la l.length lc] 24)).alloc (.cells #[.slice sa S.st.length sc, .slice ra S.rd.length rc, .slice wa S.wr.length tc, .slice va S.vs.length vc] 29)) := ⟨_, rfl⟩
 have hW : Hid (Below w.heap.size w W) := by subst hWe; exact grow_alloc (grow_alloc (Below.refl _ _) _) _
 have p0 : W.cell? ⟨w.heap.size, 0, none⟩ = some (.int .i64 (sh : Int)) := by subst hWe; exact ext_cell (grow_alloc (Below.refl _ _) _) (at_new _ _ 24 _ 0 _ (by first | rfl | simp) rfl)
 have p1 : W.cell? ⟨w.heap.size, 1, none⟩ = some (.slice la l.length lc) := by subst hWe; exact ext_cell (grow_alloc (Below.refl _ _) _) (at_new _ _ 24 _ 1 _ (by first | rfl | simp) rfl)
 have q0 : W.cell? ⟨w.heap.size + 1, 0, none⟩ = some (.slice sa S.st.length sc) := by subst hWe; exact ext_cell (Below.refl _ _) (at_new _ _ 29 _ 0 _ (by first | rfl | simp) rfl)
 have q1 : W.cell? ⟨w.heap.size + 1, 1, none⟩ = some (.slice ra S.rd.length rc) := by subst hWe; exact ext_cell (Below.refl _ _) (at_new _ _ 29 _ 1 _ (by first | rfl | simp) rfl)
 have q2 : W.cell? ⟨w.heap.size + 1, 2, none⟩ = some (.slice wa S.wr.length tc) := by subst hWe; exact ext_cell (Below.refl _ _) (at_new _ _ 29 _ 2 _ (by first | rfl | simp) rfl)
 have q3 : W.cell? ⟨w.heap.size + 1, 3, none⟩ = some (.slice va S.vs.length vc) := by subst hWe; exact ext_cell (Below.refl _ _) (at_new _ _ 29 _ 3 _ (by first | rfl | simp) rfl)
 have KEEP : Hid (∀ w', Below W.heap.size W w' → w'.cell? ⟨w.heap.size, 0, none⟩ = some (.int .i64 (sh : Int)) ∧ w'.cell? ⟨w.heap.size, 1, none⟩ = some (.slice la l.length lc) ∧ w'.cell? ⟨w.heap.size + 1, 0, none⟩ = some (.slice sa S.st.length sc) ∧ w'.cell? ⟨w.heap.size + 1, 1, none⟩ = some (.slice ra S.rd.length rc) ∧ w'.cell? ⟨w.heap.size + 1, 2, none⟩ = some (.slice wa S.wr.length tc) ∧ w'.cell? ⟨w.heap.size + 1, 3, none⟩ = some (.slice va S.vs.length vc)) := fun w' hb => ⟨ext_cell hb p0, ext_cell hb p1, ext_cell hb q0, ext_cell hb q1, ext_cell hb q2, ext_cell hb q3⟩
 have CK : Hid (Calls Tryz.prog 16 #[.agg #[.int .i64 (sh : Int), .slice la l.length lc]] W fun e w' => e = .returned (.int .i64 0) ∧ Below W.heap.size W w') := by
  have h := checkPlan_any la lc l sh W (hl.below hW.out)
  rw [hp] at h
  exact h
 have HS : Hid (Sta W sa ra wa va S) := hs.below hW.out
 have HL : Hid (IsTxs W la l) := hl.below hW.out
 have HE : Hid (stE sh l S = if (lens l S && (List.range l.length).all (rowC sh l S)) = true then 0 else 1) := by
  show _ = _
  unfold stE
  rw [if_pos hp]
  show (if (formB sh l S && truthB sh l S) = true then (0 : Int) else 1) = _
  rw [form_rows]
 clear hl hs hp hc h1 h4' p0 p1 q0 q1 q2 q3
 generalize stE sh l S = R at *
 have HWe : Hid (W = _) := hWe
 clear hWe
 go_enter Tryz.func19, Tryz.ntmps19
 go_upto_region 1 with fail
 rw [← HWe.out]
 clear HWe
 obtain ⟨p0, p1, q0, q1, q2, q3⟩ := KEEP.out W (Below.refl _ _)
 go_wp2_with fail
 refine CK.out.mono ?_
 rintro e V ⟨rfl, hbV⟩
 have BV : Hid (Below W.heap.size W V) := hbV
 have BF : Hid (Below w.heap.size w V) := grow_trans hW.out hbV
 clear CK hbV p0 p1 q0 q1 q2 q3
 obtain ⟨p0, p1, q0, q1, q2, q3⟩ := KEEP.out V BV.out
 have CI : Hid (∀ w', Calls Tryz.prog 17 #[.slice sa S.st.length sc] w' fun e w'' => e = .returned (.bool (decide (S.st.length = 8))) ∧ w'' = w') := fun w' => isStore_any S.st sa sc w'
 have HL1 : Hid (lens l S = false → R = 1) := fun h => by rw [HE.out, h]; rfl
 go_upto_region 4 with fail
 by_cases g0 : S.st.length = 8
 rotate_left
 ·obtain rfl : R = 1 := HL1.out (by unfold lens; rw [decide_eq_false g0]; rfl)
  have CI' : Hid (∀ w', Calls Tryz.prog 17 #[.slice sa S.st.length sc] w' fun e w'' => e = .returned (.bool false) ∧ w'' = w') := by
   have h := CI.out
   rw [decide_eq_false g0] at h
   exact h
  clear CI HE HL1 g0
  go_wp2_with (go_at_call 17; refine (CI'.out _).mono ?_; rintro e w2 ⟨rfl, rfl⟩)
  go_ret
  exact ⟨rfl, BF.out⟩
 have CI' : Hid (∀ w', Calls Tryz.prog 17 #[.slice sa S.st.length sc] w' fun e w'' => e = .returned (.bool true) ∧ w'' = w') := by
  have h := CI.out
  rw [decide_eq_true g0] at h
  exact h
 clear CI
 by_cases g1 : S.rd.length = l.length
 rotate_left
 ·obtain rfl : R = 1 := HL1.out (by unfold lens; rw [decide_eq_false g1]; simp)
  have j1 : ((S.rd.length : Int) != (l.length : Int)) = true := by rw [bne_iff_ne]; omega
  clear HE HL1 g0 g1
  go_wp2_with (go_at_call 17; refine (CI'.out _).mono ?_; rintro e w2 ⟨rfl, rfl⟩)
  go_ret
  exact ⟨rfl, BF.out⟩
 by_cases g2 : S.wr.length = l.length
 rotate_left
 ·obtain rfl : R = 1 := HL1.out (by unfold lens; rw [decide_eq_false g2]; simp)
  have j1 : ((S.rd.length : Int) != (l.length : Int)) = false := by rw [bne_eq_false_iff_eq]; omega
  have j2 : ((S.wr.length : Int) != (l.length : Int)) = true := by rw [bne_iff_ne]; omega
  clear HE HL1 g0 g1 g2
  go_wp2_with (go_at_call 17; refine (CI'.out _).mono ?_; rintro e w2 ⟨rfl, rfl⟩)
  go_ret
  exact ⟨rfl, BF.out⟩
 by_cases g3 : S.vs.length = l.length
 rotate_left
 ·obtain rfl : R = 1 := HL1.out (by unfold lens; rw [decide_eq_false g3]; simp)
  have j1 : ((S.rd.length : Int) != (l.length : Int)) = false := by rw [bne_eq_false_iff_eq]; omega
  have j2 : ((S.wr.length : Int) != (l.length : Int)) = false := by rw [bne_eq_false_iff_eq]; omega
  have j3 : ((S.vs.length : Int) != (l.length : Int)) = true := by rw [bne_iff_ne]; omega
  clear HE HL1 g0 g1 g2 g3
  go_wp2_with (go_at_call 17; refine (CI'.out _).mono ?_; rintro e w2 ⟨rfl, rfl⟩)
  go_ret
  exact ⟨rfl, BF.out⟩
 have j1 : ((S.rd.length : Int) != (l.length : Int)) = false := by rw [bne_eq_false_iff_eq]; omega
 have j2 : ((S.wr.length : Int) != (l.length : Int)) = false := by rw [bne_eq_false_iff_eq]; omega
 have j3 : ((S.vs.length : Int) != (l.length : Int)) = false := by rw [bne_eq_false_iff_eq]; omega
 have HE2 : Hid (R = if (List.range l.length).all (rowC sh l S) = true then 0 else 1) := by
  show _ = _
  rw [HE.out]
  unfold lens
  rw [decide_eq_true g0, decide_eq_true g1, decide_eq_true g2, decide_eq_true g3]
  rfl
 have G1 : Hid (S.rd.length = l.length) := g1
 have G2 : Hid (S.wr.length = l.length) := g2
 have G3 : Hid (S.vs.length = l.length) := g3
 clear HE HL1 g0 g1 g2 g3
 go_upto_region 6 with (go_at_call 17; refine (CI'.out _).mono ?_; rintro e w2 ⟨rfl, rfl⟩)
 clear CI' j1 j2 j3 p0 p1 q0 q1 q2 q3
 go_wp2
 go_loopw [6] (fun i wr => ∃ n : Nat, n ≤ l.length ∧ i = .int .i64 n ∧ Hid ((List.range n).all (rowC sh l S) = true) ∧ Hid (Below W.heap.size W wr)) (fun i _ => l.length - (intOf i).toNat)
 case atStart => exact ⟨0, Nat.zero_le _, rfl, rfl, BV⟩
 case round =>
  clear BV BF
  obtain ⟨n, hn, rfl, hall, BV⟩ := hrel
  obtain ⟨p0, p1, q0, q1, q2, q3⟩ := KEEP.out wr BV.out
  have BF : Hid (Below w.heap.size w wr) := grow_trans hW.out BV.out
  by_cases hlt : n < l.length
  ·have i1 : (n : Int) < (l.length : Int) := by omega
   obtain ⟨b1, o1, a1, c1, e1, _, r1, _, _⟩ := (HS.out.below BV.out).rd n (by rw [G1.out]; exact hlt)
   obtain ⟨b2, o2, a2, c2, e2, _, r2, _, _⟩ := (HS.out.below BV.out).wr n (by rw [G2.out]; exact hlt)
   obtain ⟨b3, o3, a3, c3, e3, _, r3, _, _⟩ := (HS.out.below BV.out).vs n (by rw [G3.out]; exact hlt)
   obtain ⟨tb, tof, e5, _, t0', t1, t2, _⟩ := (HL.out.below BV.out) n hlt
   have HST : Hid (rowC sh l S n = false → R = 1) := fun h => by rw [HE2.out, all_stop hlt h]; rfl
   have HNX0 : Hid (rowC sh l S n = true → (List.range (n + 1)).all (rowC sh l S) = true) := fun h => by rw [all_to, hall.out, h]; rfl
   have hRC : Hid (rowC sh l S n = (rowF sh l S n && (List.range sh).all (rowB sh l S n))) := rfl
   have hRF : Hid (rowF sh l S n = (decide ((S.rd.getD n []).length = sh) && decide ((S.wr.getD n []).length = sh) && decide ((S.vs.getD n []).length = (gX l n).rs.length))) := rfl
   have t0 : wr.cell? ⟨tb, tof + n * 3, none⟩ = some (.slice (gX l n).ra (gX l n).rs.length (gX l n).rc) := t0'
   clear t0' t1 t2 hall
   rw [e1, G1.out] at q1
   rw [e2, G2.out] at q2
   rw [e3, G3.out] at q3
   rw [e5] at p1
   obtain ⟨N1, eN1⟩ : ∃ x, (S.rd.getD n []).length = x := ⟨_, rfl⟩
   obtain ⟨N2, eN2⟩ : ∃ x, (S.wr.getD n []).length = x := ⟨_, rfl⟩
   obtain ⟨N3, eN3⟩ : ∃ x, (S.vs.getD n []).length = x := ⟨_, rfl⟩
   obtain ⟨N4, eN4⟩ : ∃ x, (gX l n).rs.length = x := ⟨_, rfl⟩
   rw [eN1] at r1 hRF
   rw [eN2] at r2 hRF
   rw [eN3] at r3 hRF
   rw [eN4] at t0 hRF
   by_cases f1 : N1 = sh
   rotate_left
   ·obtain rfl : R = 1 := HST.out (by rw [hRC.out, hRF.out, decide_eq_false f1]; rfl)
    have j1 : ((N1 : Int) != (sh : Int)) = true := by rw [bne_iff_ne]; omega
    have BFN : ∀ N, Hid (Below w.heap.size w (wr.drewN N)) := fun N => drewN_grow BF.out N
    clear HST HNX0 hRC hRF HE2 HS HL G1 G2 G3 KEEP f1 e1 e2 e3 e5 eN1 eN2 eN3 eN4
    go_upto_region 9 with fail
    go_quiet (fail)
    go_wp2
    go_ret
    exact ⟨rfl, (BFN _).out⟩
   by_cases f2 : N2 = sh
   rotate_left
   ·obtain rfl : R = 1 := HST.out (by rw [hRC.out, hRF.out, decide_eq_false f2]; simp)
    have j1 : ((N1 : Int) != (sh : Int)) = false := by rw [bne_eq_false_iff_eq]; omega
    have j2 : ((N2 : Int) != (sh : Int)) = true := by rw [bne_iff_ne]; omega
    have BFN : ∀ N, Hid (Below w.heap.size w (wr.drewN N)) := fun N => drewN_grow BF.out N
    clear HST HNX0 hRC hRF HE2 HS HL G1 G2 G3 KEEP f1 f2 e1 e2 e3 e5 eN1 eN2 eN3 eN4
    go_upto_region 9 with fail
    go_quiet (fail)
    go_wp2
    go_ret
    exact ⟨rfl, (BFN _).out⟩
   by_cases f3 : N3 = N4
   rotate_left
   ·obtain rfl : R = 1 := HST.out (by rw [hRC.out, hRF.out, decide_eq_false f3]; simp)
    have j1 : ((N1 : Int) != (sh : Int)) = false := by rw [bne_eq_false_iff_eq]; omega
    have j2 : ((N2 : Int) != (sh : Int)) = false := by rw [bne_eq_false_iff_eq]; omega
    have j3 : ((N3 : Int) != (N4 : Int)) = true := by rw [bne_iff_ne]; omega
    have BFN : ∀ N, Hid (Below w.heap.size w (wr.drewN N)) := fun N => drewN_grow BF.out N
    clear HST HNX0 hRC hRF HE2 HS HL G1 G2 G3 KEEP f1 f2 e1 e2 e3 e5 eN1 eN2 eN3 eN4
    go_upto_region 9 with fail
    go_quiet (fail)
    go_wp2
    go_ret
    exact ⟨rfl, (BFN _).out⟩
   rw [f1] at r1
   rw [f2] at r2
   rw [f3] at r3
   have HRC : Hid (rowC sh l S n = (List.range sh).all (rowB sh l S n)) := by
    show _ = _
    rw [hRC.out, hRF.out, decide_eq_true f1, decide_eq_true f2, decide_eq_true f3]
    rfl
   have F1 : Hid ((S.rd.getD n []).length = sh) := eN1.trans f1
   have F2 : Hid ((S.wr.getD n []).length = sh) := eN2.trans f2
   clear hRC hRF f1 f2 f3 eN1 eN2 eN3 eN4
   have CPA : Hid (∀ w1, Below W.heap.size W w1 → Calls Tryz.prog 53 #[.agg #[.int .i64 sh, .slice la l.length lc], .int .i64 n] w1 fun e w' => ∃ a c, e = .returned (.slice a sh c) ∧ Hid (∀ k, k < sh → ∃ b o, a = some ⟨b, o, none⟩ ∧ w'.cell? ⟨b, o + k, none⟩ = some (.bool (ptB sh (gX l n) k))) ∧ Below w1.heap.size w1 w') := fun w1 hb => by
    refine (partOf_any la lc l sh n _ (HL.out.below hb) (hpn n hlt)).mono ?_
    rintro e w2 ⟨a, c, rfl, hbs, hb2⟩
    have hL := marks_len sh (keysIn (locksAt l n))
    refine ⟨a, c, by rw [hL], fun k hk => ?_, hb2⟩
    obtain ⟨b3, o3, ea, _, d3⟩ := hbs k (by rw [hL]; exact hk)
    exact ⟨b3, o3, ea, d3⟩
   have CAA : Hid (∀ w1, Below W.heap.size W w1 → Calls Tryz.prog 54 #[.agg #[.int .i64 sh, .slice la l.length lc], .int .i64 n] w1 fun e w' => ∃ a c, e = .returned (.slice a sh c) ∧ Hid (∀ k, k < sh → ∃ b o, a = some ⟨b, o, none⟩ ∧ w'.cell? ⟨b, o + k, none⟩ = some (.bool (acB sh (gX l n) k))) ∧ Below w1.heap.size w1 w') := fun w1 hb => by
    refine (activeOf_any la lc l sh n _ (HL.out.below hb) (hpn n hlt)).mono ?_
    rintro e w2 ⟨a, c, rfl, hbs, hb2⟩
    have hL := marks_len sh (setsIn (locksAt l n))
    refine ⟨a, c, by rw [hL], fun k hk => ?_, hb2⟩
    obtain ⟨b3, o3, ea, _, d3⟩ := hbs k (by rw [hL]; exact hk)
    exact ⟨b3, o3, ea, d3⟩
   have CAR : Hid (∀ w1, Below W.heap.size W w1 → Calls Tryz.prog 55 #[.agg #[.int .i64 (sh : Int), .slice la l.length lc], .agg #[.slice sa S.st.length sc, .slice ra S.rd.length rc, .slice wa S.wr.length tc, .slice va S.vs.length vc], .int .i64 n] w1 fun e w' => e = .returned (.bool (allRd sh l S n)) ∧ Below w1.heap.size w1 w') := fun w1 hb => docAllRead_row la lc l sa ra wa va sc rc tc vc S sh n w1 (HL.out.below hb) (HS.out.below hb) (hpn n hlt) G1.out F1.out hlt h0 h4 h8
   go_upto_region 9 with fail
   go_quiet (fail)
   go_upto_region 11 with fail
   clear p0 p1 q0 q1 q2 q3 r1 r2 r3 t0 e1 e2 e3 e5 BF
   obtain ⟨V, eV, BV'⟩ : ∃ V, wr.drewN nq = V ∧ Hid (Below W.heap.size W V) := ⟨_, rfl, drewN_grow BV.out _⟩
   rw [eV]
   clear eV BV
   obtain ⟨p0, p1, q0, q1, q2, q3⟩ := KEEP.out V BV'.out
   have KS : Hid (∀ w', Below V.heap.size V w' → w'.cell? ⟨w.heap.size, 0, none⟩ = some (.int .i64 (sh : Int)) ∧ w'.cell? ⟨w.heap.size, 1, none⟩ = some (.slice la l.length lc) ∧ Hid (Below V.heap.size V w')) := fun w' hb => ⟨ext_cell hb p0, ext_cell hb p1, hb⟩
   go_cut [7, 8] (fun u v wx => ∃ a c a' c', u = .slice a sh c ∧ v = .slice a' sh c' ∧ Hid (∀ k, k < sh → ∃ b o, a = some ⟨b, o, none⟩ ∧ wx.cell? ⟨b, o + k, none⟩ = some (.bool (ptB sh (gX l n) k))) ∧ Hid (∀ k, k < sh → ∃ b o, a' = some ⟨b, o, none⟩ ∧ wx.cell? ⟨b, o + k, none⟩ = some (.bool (acB sh (gX l n) k))) ∧ Hid (Below V.heap.size V wx))
   case first =>
    clear p0 p1 q0 q1 q2 q3
    go_region_held3 (fun w' => w'.cell? ⟨w.heap.size, 0, none⟩ = some (.int .i64 (sh : Int)) ∧ w'.cell? ⟨w.heap.size, 1, none⟩ = some (.slice la l.length lc) ∧ Hid (Below V.heap.size V w')) ((refine KS.out _ ?_; go_split_ands; repeat (first | assumption | exact Below.refl _ _ | exact Hid.out (by assumption) | refine grow_drew ?_ | refine grow_alloc ?_ _ | refine grow_trans ?_ (by assumption))))
     (first
      | (go_at_call 53; refine (CPA.out _ (grow_trans BV'.out ?_)).mono ?_; (go_split_ands; repeat (first | assumption | exact Below.refl _ _ | exact Hid.out (by assumption) | refine grow_drew ?_ | refine grow_alloc ?_ _ | refine grow_trans ?_ (by assumption))); rintro e w1 ⟨a1, c1, rfl, hp1, hb1⟩)
      | (go_at_call 54; refine (CAA.out _ (grow_trans BV'.out ?_)).mono ?_; (go_split_ands; repeat (first | assumption | exact Below.refl _ _ | exact Hid.out (by assumption) | refine grow_drew ?_ | refine grow_alloc ?_ _ | refine grow_trans ?_ (by assumption))); rintro e w2 ⟨a2, c2, rfl, hp2, hb2⟩))
    all_goals (go_wp2_with fail; go_meet)
    all_goals (
     go_split_ands
     refine ⟨a1, c1, a2, c2, rfl, rfl, fun k hk => ?_, hp2, Hid.out (by assumption)⟩
     obtain ⟨b, o, e, d⟩ := hp1.out k hk
     exact ⟨b, o, e, ext_cell hb2 d⟩)
   case rest =>
    obtain ⟨a1, c1, a2, c2, rfl, rfl, HP1, HP2, hbc⟩ := hcut
    obtain ⟨V2, hren⟩ : ∃ V2 : World, V2 = wc := ⟨_, rfl⟩
    subst hren
    have BV2 : Hid (Below W.heap.size W V2) := grow_trans BV'.out hbc.out
    have HB0 : Hid (Below V2.heap.size V2 V2) := Below.refl _ _
    clear hbc KS p0 p1 q0 q1 q2 q3 CPA CAA BV'
    go_wp2
    go_loopw [9] (fun i wq => ∃ k : Nat, k ≤ sh ∧ i = .int .i64 k ∧ Hid ((List.range k).all (rowB sh l S n) = true) ∧ Hid (Below V2.heap.size V2 wq)) (fun i _ => sh - (intOf i).toNat)
    case atStart => exact ⟨0, Nat.zero_le _, rfl, rfl, HB0⟩
    case round =>
     clear HB0
     obtain ⟨k, hk, rfl, hall, hB⟩ := hrel
     have BQ : Hid (Below W.heap.size W wr) := grow_trans BV2.out hB.out
     have BF : Hid (Below w.heap.size w wr) := grow_trans hW.out BQ.out
     obtain ⟨p0, p1, q0, q1, q2, q3⟩ := KEEP.out wr BQ.out
     by_cases hlk : k < sh
     ·have i3 : (k : Int) < (sh : Int) := by omega
      obtain ⟨b5, o5, ep, d5⟩ := HP1.out k hlk
      obtain ⟨b6, o6, ea, d6⟩ := HP2.out k hlk
      subst ep ea
      have d5' := ext_cell hB.out d5
      have d6' := ext_cell hB.out d6
      clear d5 d6
      obtain ⟨b1, o1, b1', o1', c1', e1, r1, s1⟩ := (HS.out.below BQ.out).rd.row (n := n) (by rw [G1.out]; exact hlt) F1.out h0
      obtain ⟨b2, o2, b2', o2', c2', e2, r2, s2⟩ := (HS.out.below BQ.out).wr.row (n := n) (by rw [G2.out]; exact hlt) F2.out h0
      have r1' := s1 k hlk
      have r2' := s2 k hlk
      clear s1 s2
      have HG : Hid (rowB sh l S n k = ((!at2 S.rd n k || ptB sh (gX l n) k) && (!at2 S.wr n k || (acB sh (gX l n) k && allRd sh l S n)))) := rfl
      have HR1 : Hid (rowB sh l S n k = false → R = 1) := fun h => HST.out (by rw [HRC.out]; exact all_stop hlk h)
      have HNX : Hid (rowB sh l S n k = true → (List.range (k + 1)).all (rowB sh l S n) = true) := fun h => by rw [all_to, hall.out, h]; rfl
      have CAR1 : Hid (Calls Tryz.prog 55 #[.agg #[.int .i64 (sh : Int), .slice la l.length lc], .agg #[.slice sa S.st.length sc, .slice ra S.rd.length rc, .slice wa S.wr.length tc, .slice va S.vs.length vc], .int .i64 n] wr fun e w' => e = .returned (.bool (allRd sh l S n)) ∧ Below wr.heap.size wr w') := CAR.out wr BQ.out
      rw [e1, G1.out] at CAR1 q1
      rw [e2, G2.out] at CAR1 q2
      clear hall HE2 HST HNX0 HRC HS HL KEEP CAR G3 F1 F2 e1 e2 HP1 HP2
      generalize rowB sh l S n k = G at *
      generalize ptB sh (gX l n) k = P at *
      generalize at2 S.rd n k = Q at *
      generalize acB sh (gX l n) k = T at *
      generalize at2 S.wr n k = U at *
      generalize allRd sh l S n = AA at *
      by_cases hQP : Q = true ∧ P = false
      ·obtain ⟨rfl, rfl⟩ := hQP
       obtain rfl : R = 1 := HR1.out HG.out
       clear HG HR1 HNX
       go_wp2
       go_ret
       exact ⟨rfl, BF.out⟩
      ·have hPQ : (!Q || P) = true := by cases Q <;> cases P <;> simp_all
       have HG2 : Hid (G = (!U || (T && AA))) := by show _ = _; rw [HG.out, hPQ, Bool.true_and]
       clear HG
       have hcase : (Q = false) ∨ (Q = true ∧ P = true) := by cases Q <;> cases P <;> simp_all
       clear hQP hPQ
       rcases hcase with rfl | ⟨rfl, rfl⟩
       all_goals (
        cases U with
        | false =>
         have hal := HNX.out HG2.out
         clear HR1 HNX HG2
         go_wp2
         go_roundw
         case rel => exact ⟨k + 1, by omega, by go_num, hal, hB⟩
         case measure => simp [intOf]; omega
        | true =>
         cases T with
         | false =>
          obtain rfl : R = 1 := HR1.out HG2.out
          clear HR1 HNX HG2
          go_wp2
          go_ret
          exact ⟨rfl, BF.out⟩
         | true =>
          go_wp2_with fail
          refine CAR1.out.mono ?_
          rintro e w3 ⟨rfl, hb3⟩
          have hB3 : Hid (Below V2.heap.size V2 w3) := grow_trans hB.out hb3
          have BF3 : Hid (Below w.heap.size w w3) := grow_trans BF.out hb3
          clear hb3 CAR1 d5' d6' r1 r2 r1' r2' p0 p1 q0 q1 q2 q3 hB BF BQ
          cases AA with
          | true =>
           have hal := HNX.out HG2.out
           clear HR1 HNX HG2
           go_wp2
           go_roundw
           case rel => exact ⟨k + 1, by omega, by go_num, hal, hB3⟩
           case measure => simp [intOf]; omega
          | false =>
           obtain rfl : R = 1 := HR1.out HG2.out
           clear HR1 HNX HG2
           go_wp2
           go_ret
           exact ⟨rfl, BF3.out⟩)
     ·have hkk : k = sh := by omega
      have hal : Hid ((List.range (n + 1)).all (rowC sh l S) = true) := HNX0.out (by rw [HRC.out]; have h := hall.out; rw [hkk] at h; exact h)
      have i3 : ¬ (k : Int) < (sh : Int) := by omega
      go_wp2
      go_roundw
      case rel => exact ⟨n + 1, by omega, by go_num, hal, BQ⟩
      case measure => simp [intOf]; omega
  ·have hnn : n = l.length := by omega
   have hal := hall.out
   rw [hnn] at hal
   obtain rfl : R = 0 := by rw [HE2.out, hal]; rfl
   have i1 : ¬ (n : Int) < (l.length : Int) := by omega
   go_wp2
   go_ret
   exact ⟨rfl, BF.out⟩
set_option maxHeartbeats 2000000 in
theorem docCheck_any (m : Int) (w : World) (hl : IsTxs w la l) (hs : Sta w sa ra wa va S) :
  Calls Tryz.prog 19 #[.agg #[.int .i64 m, .slice la l.length lc], .agg #[.slice sa S.st.length sc, .slice ra S.rd.length rc, .slice wa S.wr.length tc, .slice va S.vs.length vc]] w fun e w' => e = .returned (.int .i64 (stE m l S)) ∧ Below w.heap.size w w' := by
 by_cases hp : planE m l = 0
 ·obtain ⟨h1, _, _⟩ := planE_zero hp
  obtain ⟨sh, rfl⟩ : ∃ sh : Nat, m = sh := ⟨m.toNat, by omega⟩
  exact docCheck_ok la lc l sa ra wa va sc rc tc vc S sh w hl hs hp
 ·have e0 : stE m l S = planE m l := if_neg hp
  rw [e0]
  have hW : Hid (Below w.heap.size w ((w.alloc (.cells #[.int .i64 m, .slice la l.length lc] 24)).alloc (.cells #[.slice sa S.st.length sc, .slice ra S.rd.length rc, .slice wa S.wr.length tc, .slice va S.vs.length vc] 29))) := grow_alloc (grow_alloc (Below.refl _ _) _) _
  have p0 : ((w.alloc (.cells #[.int .i64 m, .slice la l.length lc] 24)).alloc (.cells #[.slice sa S.st.length sc, .slice ra S.rd.length rc, .slice wa S.wr.length tc, .slice va S.vs.length vc] 29)).cell? ⟨w.heap.size, 0, none⟩ = some (.int .i64 m) := ext_cell (grow_alloc (Below.refl _ _) _) (at_new w _ 24 _ 0 _ rfl rfl)
  have p1 : ((w.alloc (.cells #[.int .i64 m, .slice la l.length lc] 24)).alloc (.cells #[.slice sa S.st.length sc, .slice ra S.rd.length rc, .slice wa S.wr.length tc, .slice va S.vs.length vc] 29)).cell? ⟨w.heap.size, 1, none⟩ = some (.slice la l.length lc) := ext_cell (grow_alloc (Below.refl _ _) _) (at_new w _ 24 _ 1 _ rfl rfl)
  have CK : Hid (Calls Tryz.prog 16 #[.agg #[.int .i64 m, .slice la l.length lc]] ((w.alloc (.cells #[.int .i64 m, .slice la l.length lc] 24)).alloc (.cells #[.slice sa S.st.length sc, .slice ra S.rd.length rc, .slice wa S.wr.length tc, .slice va S.vs.length vc] 29)) fun e w' => e = .returned (.int .i64 (planE m l)) ∧ Below ((w.alloc (.cells #[.int .i64 m, .slice la l.length lc] 24)).alloc (.cells #[.slice sa S.st.length sc, .slice ra S.rd.length rc, .slice wa S.wr.length tc, .slice va S.vs.length vc] 29)).heap.size ((w.alloc (.cells #[.int .i64 m, .slice la l.length lc] 24)).alloc (.cells #[.slice sa S.st.length sc, .slice ra S.rd.length rc, .slice wa S.wr.length tc, .slice va S.vs.length vc] 29)) w') := checkPlan_any la lc l m ((w.alloc (.cells #[.int .i64 m, .slice la l.length lc] 24)).alloc (.cells #[.slice sa S.st.length sc, .slice ra S.rd.length rc, .slice wa S.wr.length tc, .slice va S.vs.length vc] 29)) (hl.below hW.out)
  have hne : (planE m l != 0) = true := by simpa using hp
  clear hl hs e0 hp
  generalize planE m l = E at *
  go_enter Tryz.func19, Tryz.ntmps19
  go_upto_region 1 with fail
  generalize ((w.alloc (.cells #[.int .i64 m, .slice la l.length lc] 24)).alloc (.cells #[.slice sa S.st.length sc, .slice ra S.rd.length rc, .slice wa S.wr.length tc, .slice va S.vs.length vc] 29)) = W at *
  go_wp2_with fail
  refine CK.out.mono ?_
  rintro e V ⟨rfl, hbV⟩
  have BF : Hid (Below w.heap.size w V) := grow_trans hW.out hbV
  clear CK hbV p0 p1
  go_wp2
  go_ret
  exact ⟨rfl, BF.out⟩
end Go.Proofs.YtebjkmknhpgemaaGreat
