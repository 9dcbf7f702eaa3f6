/-
  
  Conditions: those that each theorem states.
-/
import Derived.Test.YtebjkmknhpgemaaGreatUOwnA
import Derived.Test.YtebjkmknhpgemaaGreatUHallG
import Derived.Test.YtebjkmknhpgemaaGreatUStoreG
set_option maxRecDepth 100000
namespace Go.Proofs.YtebjkmknhpgemaaGreat
open Go.RowKit
variable (la : Option Addr) (lc : Nat) (l : List TxA) (sa ra wa va : Option Addr) (sc rc tc vc : Nat) (S : SA)
set_option maxHeartbeats 2000000 in
theorem mX (m : Int) (w : World) (hl : IsTxs w la l) (he : ¬ aF [aP m l, dZ S.st] = 0) :
  Calls Tryz.prog 49 #[.agg #[.int .i64 m, .slice la l.length lc], .agg #[.slice sa S.st.length sc, .slice ra S.rd.length rc, .slice wa S.wr.length tc, .slice va S.vs.length vc]] w fun e w' => e = .panicked [{ v := .iface 30 (.int .i64 (aF [aP m l, dZ S.st])), recovered := false }] ∧ Below w.heap.size w w' := by
 have HE : Hid (¬ aF [aP m l, dZ S.st] = 0) := he
 clear he
 obtain ⟨W, hWe⟩ : ∃ W : World, W = ((w.alloc (.cells #[.int .i64 m, .slice la l.length lc] 24)).alloc (.cells #[.slice sa S.st.length sc, .slice ra S.rd.length rc, .slice wa S.wr.length tc, .slice va S.vs.length vc] 29)) := ⟨_, rfl⟩
 have hW : Hid (Below w.heap.size w W) := by subst hWe; exact aB (aB (Below.refl _ _) _) _
 have y0 : W.cell? ⟨w.heap.size, 0, none⟩ = some (.int .i64 m) := by subst hWe; exact aA (aB (Below.refl _ _) _) (aE w _ 24 _ 0 _ rfl rfl)
 have y1 : W.cell? ⟨w.heap.size, 1, none⟩ = some (.slice la l.length lc) := by subst hWe; exact aA (aB (Below.refl _ _) _) (aE w _ 24 _ 1 _ rfl rfl)
 have z0 : W.cell? ⟨w.heap.size + 1, 0, none⟩ = some (.slice sa S.st.length sc) := by subst hWe; exact aE _ _ 29 _ 0 _ (by simp) rfl
 have z1 : W.cell? ⟨w.heap.size + 1, 1, none⟩ = some (.slice ra S.rd.length rc) := by subst hWe; exact aE _ _ 29 _ 1 _ (by simp) rfl
 have z2 : W.cell? ⟨w.heap.size + 1, 2, none⟩ = some (.slice wa S.wr.length tc) := by subst hWe; exact aE _ _ 29 _ 2 _ (by simp) rfl
 have z3 : W.cell? ⟨w.heap.size + 1, 3, none⟩ = some (.slice va S.vs.length vc) := by subst hWe; exact aE _ _ 29 _ 3 _ (by simp) rfl
 have HLW : Hid (IsTxs W la l) := hl.below hW.out
 have sW : Hid (W.heap.size = w.heap.size + 2) := by subst hWe; show _ = _; simp
 clear hl z1 z2 z3 sW
 have HWe : Hid (W = _) := hWe
 clear hWe
 go_enter Tryz.func49, Tryz.ntmps49
 go_upto_region 1 with fail
 rw [← HWe.out]
 clear HWe
 have KS : Hid (∀ w', Below W.heap.size W w' → Below W.heap.size W w' ∧ w'.cell? ⟨w.heap.size, 0, none⟩ = some (.int .i64 m) ∧ w'.cell? ⟨w.heap.size, 1, none⟩ = some (.slice la l.length lc) ∧ w'.cell? ⟨w.heap.size + 1, 0, none⟩ = some (.slice sa S.st.length sc)) := fun w' hb => ⟨hb, aA hb y0, aA hb y1, aA hb z0⟩
 go_region_held (fun w' => Below W.heap.size W w' ∧ w'.cell? ⟨w.heap.size, 0, none⟩ = some (.int .i64 m) ∧ w'.cell? ⟨w.heap.size, 1, none⟩ = some (.slice la l.length lc) ∧ w'.cell? ⟨w.heap.size + 1, 0, none⟩ = some (.slice sa S.st.length sc)) ((refine KS.out _ ?_; go_split_ands; repeat (first | assumption | exact Below.refl _ _ | exact Hid.out (by assumption) | refine aD ?_ | refine aB ?_ _ | refine aC ?_ (by assumption))))
  (first
   | (go_at_call 44; refine (cN la lc l m _ ?_).mono ?_; (refine HLW.out.below ?_; go_split_ands; repeat (first | assumption | exact Below.refl _ _ | exact Hid.out (by assumption) | refine aD ?_ | refine aB ?_ _ | refine aC ?_ (by assumption))); rintro e wx ⟨rfl, hbx⟩)
   | (go_at_call 45; refine (eS S.st sa sc _).mono ?_; rintro e w' ⟨rfl, rfl⟩)
   | (go_at_call 43; refine (fR (fA [aP m l, dZ S.st] _ 2 _ (by simp) HE.out ?_) (.tuple #[])).mono ?_; (exact nA _ _ _ _ (by simp)); rintro e w' (⟨rfl, rfl⟩ | ⟨hF, rfl, rfl⟩); (refine ⟨rfl, rfl, aC hW.out ?_⟩; go_split_ands; repeat (first | assumption | exact Below.refl _ _ | exact Hid.out (by assumption) | refine aD ?_ | refine aB ?_ _ | refine aC ?_ (by assumption)))))
 exact (‹Hid False› : Hid False).out.elim
set_option maxHeartbeats 4000000 in
theorem hallOf_pan2 (sh : Nat) (w : World) (hl : IsTxs w la l) (hs : Sta w sa ra wa va S) (hp : aP (sh : Int) l = 0) (h8 : S.st.length = 8) (hf : fH sh l S = false) :
  Calls Tryz.prog 49 #[.agg #[.int .i64 (sh : Int), .slice la l.length lc], .agg #[.slice sa S.st.length sc, .slice ra S.rd.length rc, .slice wa S.wr.length tc, .slice va S.vs.length vc]] w fun e w' => e = .panicked [{ v := .iface 30 (.int .i64 1), recovered := false }] ∧ Below w.heap.size w w' := by
 have HF : Hid (fH sh l S = false) := hf
 clear hf
 have hz := aX hp
 have hl8 := dV hz.2.2
 have hs0 : 0 < sh := by omega
 have hs4 : sh ≤ 4 := by omega
 have HC : Hid (fL l = 0) := hz.2.2
 have HE : Hid (aF [aP (sh : Int) l, dZ S.st] = 0) := by
  have e2 : dZ S.st = 0 := if_pos h8
  show _ = _
  rw [hp, e2]; rfl
 have HST : Hid (Sta w sa ra wa va S) := hs
 have H8 : Hid (S.st.length = 8) := h8
 have HL0 : Hid (IsTxs w la l) := hl
 clear hz hs h8 hp
 obtain ⟨W, hWe⟩ : ∃ W : World, W = ((w.alloc (.cells #[.int .i64 (sh : Int), .slice la l.length lc] 24)).alloc (.cells #[.slice sa S.st.length sc, .slice ra S.rd.length rc, .slice wa S.wr.length tc, .slice va S.vs.length vc] 29)) := ⟨_, rfl⟩
 have hW : Hid (Below w.heap.size w W) := by subst hWe; exact aB (aB (Below.refl _ _) _) _
 have y0 : W.cell? ⟨w.heap.size, 0, none⟩ = some (.int .i64 (sh : Int)) := by subst hWe; exact aA (aB (Below.refl _ _) _) (aE w _ 24 _ 0 _ rfl rfl)
 have y1 : W.cell? ⟨w.heap.size, 1, none⟩ = some (.slice la l.length lc) := by subst hWe; exact aA (aB (Below.refl _ _) _) (aE w _ 24 _ 1 _ rfl rfl)
 have z0 : W.cell? ⟨w.heap.size + 1, 0, none⟩ = some (.slice sa S.st.length sc) := by subst hWe; exact aE _ _ 29 _ 0 _ (by simp) rfl
 have z1 : W.cell? ⟨w.heap.size + 1, 1, none⟩ = some (.slice ra S.rd.length rc) := by subst hWe; exact aE _ _ 29 _ 1 _ (by simp) rfl
 have z2 : W.cell? ⟨w.heap.size + 1, 2, none⟩ = some (.slice wa S.wr.length tc) := by subst hWe; exact aE _ _ 29 _ 2 _ (by simp) rfl
 have z3 : W.cell? ⟨w.heap.size + 1, 3, none⟩ = some (.slice va S.vs.length vc) := by subst hWe; exact aE _ _ 29 _ 3 _ (by simp) rfl
 have HLW : Hid (IsTxs W la l) := hl.below hW.out
 have sW : Hid (W.heap.size = w.heap.size + 2) := by subst hWe; show _ = _; simp
 clear hl
 have HWe : Hid (W = _) := hWe
 clear hWe
 go_enter Tryz.func49, Tryz.ntmps49
 go_upto_region 1 with fail
 rw [← HWe.out]
 clear HWe
 have KS : Hid (∀ w', Below W.heap.size W w' → Below W.heap.size W w' ∧ w'.cell? ⟨w.heap.size, 0, none⟩ = some (.int .i64 (sh : Int)) ∧ w'.cell? ⟨w.heap.size, 1, none⟩ = some (.slice la l.length lc) ∧ w'.cell? ⟨w.heap.size + 1, 0, none⟩ = some (.slice sa S.st.length sc)) := fun w' hb => ⟨hb, aA hb y0, aA hb y1, aA hb z0⟩
 go_region_held3 (fun w' => Below W.heap.size W w' ∧ w'.cell? ⟨w.heap.size, 0, none⟩ = some (.int .i64 (sh : Int)) ∧ w'.cell? ⟨w.heap.size, 1, none⟩ = some (.slice la l.length lc) ∧ w'.cell? ⟨w.heap.size + 1, 0, none⟩ = some (.slice sa S.st.length sc)) ((refine KS.out _ ?_; go_split_ands; repeat (first | assumption | exact Below.refl _ _ | exact Hid.out (by assumption) | refine aD ?_ | refine aB ?_ _ | refine aC ?_ (by assumption))))
  (first
   | (go_at_call 44; refine (cN la lc l (sh : Int) _ ?_).mono ?_; (refine HLW.out.below ?_; go_split_ands; repeat (first | assumption | exact Below.refl _ _ | exact Hid.out (by assumption) | refine aD ?_ | refine aB ?_ _ | refine aC ?_ (by assumption))); rintro e wx ⟨rfl, hbx⟩)
   | (go_at_call 45; refine (eS S.st sa sc _).mono ?_; rintro e w' ⟨rfl, rfl⟩)
   | (go_at_call 43; refine (aV [aP (sh : Int) l, dZ S.st] _ 2 _ (by simp) HE.out ?_).mono ?_; (exact nA _ _ _ _ (by simp)); rintro e w1 ⟨rfl, rfl⟩))
 have BW : Hid (Below W.heap.size W (w'.alloc (.cells #[.int .i64 (aP (sh : Int) l), .int .i64 (dZ S.st)] 30))) := aB (aC (aD (Below.refl _ _)) hbx) _
 go_split_ands
 generalize w'.alloc (.cells #[.int .i64 (aP (sh : Int) l), .int .i64 (dZ S.st)] 30) = w1 at *
 have q0 := aA BW.out y0
 have q1 := aA BW.out y1
 have r0 := aA BW.out z0
 have r1 := aA BW.out z1
 have r2 := aA BW.out z2
 have r3 := aA BW.out z3
 have B1 : Hid (Below w.heap.size w w1) := aC hW.out BW.out
 have sz1 : Hid (w.heap.size + 2 ≤ w1.heap.size) := by have := BW.out.size; have := sW.out; show _ ≤ _; omega
 have bU : Below w1.heap.size w1 (w1.alloc (.cells #[.pointer (some ⟨w.heap.size, 0, none⟩), .slice sa S.st.length sc, .slice ra S.rd.length rc, .slice wa S.wr.length tc, .slice va S.vs.length vc, .slice none 0 0, .slice none 0 0, .slice none 0 0] 87)) := aB (Below.refl _ _) _
 have B2 : Hid (Below w.heap.size w (w1.alloc (.cells #[.pointer (some ⟨w.heap.size, 0, none⟩), .slice sa S.st.length sc, .slice ra S.rd.length rc, .slice wa S.wr.length tc, .slice va S.vs.length vc, .slice none 0 0, .slice none 0 0, .slice none 0 0] 87))) := aC B1.out bU
 have c0 : (w1.alloc (.cells #[.pointer (some ⟨w.heap.size, 0, none⟩), .slice sa S.st.length sc, .slice ra S.rd.length rc, .slice wa S.wr.length tc, .slice va S.vs.length vc, .slice none 0 0, .slice none 0 0, .slice none 0 0] 87)).cell? ⟨w1.heap.size, 0, none⟩ = some (.pointer (some ⟨w.heap.size, 0, none⟩)) := aE w1 _ 87 _ 0 _ rfl rfl
 have c1 : (w1.alloc (.cells #[.pointer (some ⟨w.heap.size, 0, none⟩), .slice sa S.st.length sc, .slice ra S.rd.length rc, .slice wa S.wr.length tc, .slice va S.vs.length vc, .slice none 0 0, .slice none 0 0, .slice none 0 0] 87)).cell? ⟨w1.heap.size, 1, none⟩ = some (.slice sa S.st.length sc) := aE w1 _ 87 _ 1 _ rfl rfl
 have c2 : (w1.alloc (.cells #[.pointer (some ⟨w.heap.size, 0, none⟩), .slice sa S.st.length sc, .slice ra S.rd.length rc, .slice wa S.wr.length tc, .slice va S.vs.length vc, .slice none 0 0, .slice none 0 0, .slice none 0 0] 87)).cell? ⟨w1.heap.size, 2, none⟩ = some (.slice ra S.rd.length rc) := aE w1 _ 87 _ 2 _ rfl rfl
 have c3 : (w1.alloc (.cells #[.pointer (some ⟨w.heap.size, 0, none⟩), .slice sa S.st.length sc, .slice ra S.rd.length rc, .slice wa S.wr.length tc, .slice va S.vs.length vc, .slice none 0 0, .slice none 0 0, .slice none 0 0] 87)).cell? ⟨w1.heap.size, 3, none⟩ = some (.slice wa S.wr.length tc) := aE w1 _ 87 _ 3 _ rfl rfl
 have c4 : (w1.alloc (.cells #[.pointer (some ⟨w.heap.size, 0, none⟩), .slice sa S.st.length sc, .slice ra S.rd.length rc, .slice wa S.wr.length tc, .slice va S.vs.length vc, .slice none 0 0, .slice none 0 0, .slice none 0 0] 87)).cell? ⟨w1.heap.size, 4, none⟩ = some (.slice va S.vs.length vc) := aE w1 _ 87 _ 4 _ rfl rfl
 have c5 : (w1.alloc (.cells #[.pointer (some ⟨w.heap.size, 0, none⟩), .slice sa S.st.length sc, .slice ra S.rd.length rc, .slice wa S.wr.length tc, .slice va S.vs.length vc, .slice none 0 0, .slice none 0 0, .slice none 0 0] 87)).cell? ⟨w1.heap.size, 5, none⟩ = some (.slice none 0 0) := aE w1 _ 87 _ 5 _ rfl rfl
 have c6 : (w1.alloc (.cells #[.pointer (some ⟨w.heap.size, 0, none⟩), .slice sa S.st.length sc, .slice ra S.rd.length rc, .slice wa S.wr.length tc, .slice va S.vs.length vc, .slice none 0 0, .slice none 0 0, .slice none 0 0] 87)).cell? ⟨w1.heap.size, 6, none⟩ = some (.slice none 0 0) := aE w1 _ 87 _ 6 _ rfl rfl
 have c7 : (w1.alloc (.cells #[.pointer (some ⟨w.heap.size, 0, none⟩), .slice sa S.st.length sc, .slice ra S.rd.length rc, .slice wa S.wr.length tc, .slice va S.vs.length vc, .slice none 0 0, .slice none 0 0, .slice none 0 0] 87)).cell? ⟨w1.heap.size, 7, none⟩ = some (.slice none 0 0) := aE w1 _ 87 _ 7 _ rfl rfl
 have fz : ∀ j, (w1.alloc (.cells #[.pointer (some ⟨w.heap.size, 0, none⟩), .slice sa S.st.length sc, .slice ra S.rd.length rc, .slice wa S.wr.length tc, .slice va S.vs.length vc, .slice none 0 0, .slice none 0 0, .slice none 0 0] 87)).frozen? ⟨w1.heap.size, j, none⟩ = false := fun j => by simp
 have H0 : Hid (Hall0 (w1.alloc (.cells #[.pointer (some ⟨w.heap.size, 0, none⟩), .slice sa S.st.length sc, .slice ra S.rd.length rc, .slice wa S.wr.length tc, .slice va S.vs.length vc, .slice none 0 0, .slice none 0 0, .slice none 0 0] 87)) w1.heap.size w.heap.size sh l S la sa ra wa va lc sc rc tc vc) := ⟨c0, c1, c2, c3, c4, aA bU q0, aA bU q1, HL0.out.below B2.out, HST.out.below B2.out, hl8, hs4⟩
 have HLs : Hid (HL w (w1.alloc (.cells #[.pointer (some ⟨w.heap.size, 0, none⟩), .slice sa S.st.length sc, .slice ra S.rd.length rc, .slice wa S.wr.length tc, .slice va S.vs.length vc, .slice none 0 0, .slice none 0 0, .slice none 0 0] 87)) w1.heap.size w.heap.size sh l la lc (.slice sa S.st.length sc) (.slice ra S.rd.length rc) (.slice wa S.wr.length tc) (.slice va S.vs.length vc) (.slice none 0 0) (.slice none 0 0) (.slice none 0 0) [] [] []) := ⟨c0, c1, c2, c3, c4, c5, c6, c7, fz, aA bU q0, aA bU q1, Tri.nil _ _ _ _, B2.out, by have := sz1.out; omega, by have := sz1.out; omega, by simp⟩
 clear hbx KS y0 y1 z0 z1 z2 z3 HLW hW HE BW sW c0 c1 c2 c3 c4 c5 c6 c7 fz bU
 go_wp2_with fail
 generalize w1.alloc (.cells #[.pointer (some ⟨w.heap.size, 0, none⟩), .slice sa S.st.length sc, .slice ra S.rd.length rc, .slice wa S.wr.length tc, .slice va S.vs.length vc, .slice none 0 0, .slice none 0 0, .slice none 0 0] 87) = w2 at *
 generalize w1.heap.size = H at *
 have CF : Hid (Calls Tryz.prog 94 #[.pointer (some ⟨H, 0, none⟩)] w2 fun e w' => e = .returned (.int .i64 1) ∧ Below w2.heap.size w2 w') := by
  have hh := jY H0.out H8.out
  rw [HF.out] at hh
  exact hh
 refine CF.out.mono ?_
 rintro e w3 ⟨rfl, hb3⟩
 have B3 : Hid (Below w.heap.size w w3) := aC B2.out hb3
 clear hb3 CF q0 q1 r0 r1 r2 r3
 go_wp2_with fail
 refine (fA [1] _ 1 _ (by simp) (by decide) (dQ _ _ _ rfl)).mono ?_
 rintro e w4 ⟨rfl, hw4⟩
 refine ⟨rfl, rfl, ?_⟩
 rw [hw4]
 exact aB B3.out _
end Go.Proofs.YtebjkmknhpgemaaGreat
