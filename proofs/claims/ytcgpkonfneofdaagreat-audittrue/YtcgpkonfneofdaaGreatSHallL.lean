/-
  
  Conditions: those that each theorem states.
-/
import Derived.Test.YtcgpkonfneofdaaGreatSOwnA
import Derived.Test.YtcgpkonfneofdaaGreatSHallG
import Derived.Test.YtcgpkonfneofdaaGreatSStoreG
set_option maxRecDepth 100000
namespace Go.Proofs.YtcgpkonfneofdaaGreat
open Go.RowKit
variable (la : Option Addr) (lc : Nat) (l : List TxA) (sa ra wa va : Option Addr) (sc rc tc vc : Nat) (S : SA)
set_option maxHeartbeats 2000000 in
theorem hallOf_pan1 (m : Int) (w : World) (hl : IsTxs w la l) (he : ¬ firstNZ [planE m l, lenE S.st] = 0) :
  Calls Tryz.prog 43 #[.agg #[.int .i64 m, .slice la l.length lc], .agg #[.slice sa S.st.length sc, .slice ra S.rd.length rc, .slice wa S.wr.length tc, .slice va S.vs.length vc]] w fun e w' => e = .panicked [{ v := .iface 30 (.int .i64 (firstNZ [planE m l, lenE S.st])), recovered := false }] ∧ Below w.heap.size w w' := by
 have HE : Hid (¬ firstNZ [planE m l, lenE S.st] = 0) := he
 clear he
 obtain ⟨W, hWe⟩ : ∃ W : World, W = ((w.alloc (.cells #[.int .i64 m, .slice la l.length lc] 24)).alloc (.cells #[.slice sa S.st.length sc, .slice ra S.rd.length rc, .slice wa S.wr.length tc, .slice va S.vs.length vc] 29)) := ⟨_, rfl⟩
 have hW : Hid (Below w.heap.size w W) := by subst hWe; exact grow_alloc (grow_alloc (Below.refl _ _) _) _
 have y0 : W.cell? ⟨w.heap.size, 0, none⟩ = some (.int .i64 m) := by subst hWe; exact ext_cell (grow_alloc (Below.refl _ _) _) (at_new w _ 24 _ 0 _ rfl rfl)
 have y1 : W.cell? ⟨w.heap.size, 1, none⟩ = some (.slice la l.length lc) := by subst hWe; exact ext_cell (grow_alloc (Below.refl _ _) _) (at_new w _ 24 _ 1 _ rfl rfl)
 have z0 : W.cell? ⟨w.heap.size + 1, 0, none⟩ = some (.slice sa S.st.length sc) := by subst hWe; exact at_new _ _ 29 _ 0 _ (by simp) rfl
 have z1 : W.cell? ⟨w.heap.size + 1, 1, none⟩ = some (.slice ra S.rd.length rc) := by subst hWe; exact at_new _ _ 29 _ 1 _ (by simp) rfl
 have z2 : W.cell? ⟨w.heap.size + 1, 2, none⟩ = some (.slice wa S.wr.length tc) := by subst hWe; exact at_new _ _ 29 _ 2 _ (by simp) rfl
 have z3 : W.cell? ⟨w.heap.size + 1, 3, none⟩ = some (.slice va S.vs.length vc) := by subst hWe; exact at_new _ _ 29 _ 3 _ (by simp) rfl
 have HLW : Hid (IsTxs W la l) := hl.below hW.out
 have sW : Hid (W.heap.size = w.heap.size + 2) := by subst hWe; show _ = _; simp
 clear hl z1 z2 z3 sW
 have HWe : Hid (W = _) := hWe
 clear hWe
 go_enter Tryz.func43, Tryz.ntmps43
 go_upto_region 1 with fail
 rw [← HWe.out]
 clear HWe
 have KS : Hid (∀ w', Below W.heap.size W w' → Below W.heap.size W w' ∧ w'.cell? ⟨w.heap.size, 0, none⟩ = some (.int .i64 m) ∧ w'.cell? ⟨w.heap.size, 1, none⟩ = some (.slice la l.length lc) ∧ w'.cell? ⟨w.heap.size + 1, 0, none⟩ = some (.slice sa S.st.length sc)) := fun w' hb => ⟨hb, ext_cell hb y0, ext_cell hb y1, ext_cell hb z0⟩
 go_region_held (fun w' => Below W.heap.size W w' ∧ w'.cell? ⟨w.heap.size, 0, none⟩ = some (.int .i64 m) ∧ w'.cell? ⟨w.heap.size, 1, none⟩ = some (.slice la l.length lc) ∧ w'.cell? ⟨w.heap.size + 1, 0, none⟩ = some (.slice sa S.st.length sc)) ((refine KS.out _ ?_; go_split_ands; repeat (first | assumption | exact Below.refl _ _ | exact Hid.out (by assumption) | refine grow_drew ?_ | refine grow_alloc ?_ _ | refine grow_trans ?_ (by assumption))))
  (first
   | (go_at_call 37; refine (placeCheck_any la lc l m _ ?_).mono ?_; (refine HLW.out.below ?_; go_split_ands; repeat (first | assumption | exact Below.refl _ _ | exact Hid.out (by assumption) | refine grow_drew ?_ | refine grow_alloc ?_ _ | refine grow_trans ?_ (by assumption))); rintro e wx ⟨rfl, hbx⟩)
   | (go_at_call 30; refine (storeCheck_e S.st sa sc _).mono ?_; rintro e w' ⟨rfl, rfl⟩)
   | (go_at_call 13; refine (panic_or (leave_nz [planE m l, lenE S.st] _ 2 _ (by simp) HE.out ?_) (.tuple #[])).mono ?_; (exact errs2 _ _ _ _ (by simp)); rintro e w' (⟨rfl, rfl⟩ | ⟨hF, rfl, rfl⟩); (refine ⟨rfl, rfl, grow_trans hW.out ?_⟩; go_split_ands; repeat (first | assumption | exact Below.refl _ _ | exact Hid.out (by assumption) | refine grow_drew ?_ | refine grow_alloc ?_ _ | refine grow_trans ?_ (by assumption)))))
 exact (‹Hid False› : Hid False).out.elim
set_option maxHeartbeats 4000000 in
theorem hallOf_pan2 (sh : Nat) (w : World) (hl : IsTxs w la l) (hs : Sta w sa ra wa va S) (hp : planE (sh : Int) l = 0) (h8 : S.st.length = 8) (hf : formB sh l S = false) :
  Calls Tryz.prog 43 #[.agg #[.int .i64 (sh : Int), .slice la l.length lc], .agg #[.slice sa S.st.length sc, .slice ra S.rd.length rc, .slice wa S.wr.length tc, .slice va S.vs.length vc]] w fun e w' => e = .panicked [{ v := .iface 30 (.int .i64 1), recovered := false }] ∧ Below w.heap.size w w' := by
 have HF : Hid (formB sh l S = false) := hf
 clear hf
 have hz := planE_zero hp
 have hl8 := chkL_small hz.2.2
 have hs0 : 0 < sh := by omega
 have hs4 : sh ≤ 4 := by omega
 have HC : Hid (chkL l = 0) := hz.2.2
 have HE : Hid (firstNZ [planE (sh : Int) l, lenE S.st] = 0) := by
  have e2 : lenE S.st = 0 := if_pos h8
  show _ = _
  rw [hp, e2]; rfl
 have HST : Hid (Sta w sa ra wa va S) := hs
 have H8 : Hid (S.st.length = 8) := h8
 have HL0 : Hid (IsTxs w la l) := hl
 clear hz hs h8 hp
 obtain ⟨W, hWe⟩ : ∃ W : World, W = ((w.alloc (.cells #[.int .i64 (sh : Int), .slice la l.length lc] 24)).alloc (.cells #[.slice sa S.st.length sc, .slice ra S.rd.length rc, .slice wa S.wr.length tc, .slice va S.vs.length vc] 29)) := ⟨_, rfl⟩
 have hW : Hid (Below w.heap.size w W) := by subst hWe; exact grow_alloc (grow_alloc (Below.refl _ _) _) _
 have y0 : W.cell? ⟨w.heap.size, 0, none⟩ = some (.int .i64 (sh : Int)) := by subst hWe; exact ext_cell (grow_alloc (Below.refl _ _) _) (at_new w _ 24 _ 0 _ rfl rfl)
 have y1 : W.cell? ⟨w.heap.size, 1, none⟩ = some (.slice la l.length lc) := by subst hWe; exact ext_cell (grow_alloc (Below.refl _ _) _) (at_new w _ 24 _ 1 _ rfl rfl)
 have z0 : W.cell? ⟨w.heap.size + 1, 0, none⟩ = some (.slice sa S.st.length sc) := by subst hWe; exact at_new _ _ 29 _ 0 _ (by simp) rfl
 have z1 : W.cell? ⟨w.heap.size + 1, 1, none⟩ = some (.slice ra S.rd.length rc) := by subst hWe; exact at_new _ _ 29 _ 1 _ (by simp) rfl
 have z2 : W.cell? ⟨w.heap.size + 1, 2, none⟩ = some (.slice wa S.wr.length tc) := by subst hWe; exact at_new _ _ 29 _ 2 _ (by simp) rfl
 have z3 : W.cell? ⟨w.heap.size + 1, 3, none⟩ = some (.slice va S.vs.length vc) := by subst hWe; exact at_new _ _ 29 _ 3 _ (by simp) rfl
 have HLW : Hid (IsTxs W la l) := hl.below hW.out
 have sW : Hid (W.heap.size = w.heap.size + 2) := by subst hWe; show _ = _; simp
 clear hl
 have HWe : Hid (W = _) := hWe
 clear hWe
 go_enter Tryz.func43, Tryz.ntmps43
 go_upto_region 1 with fail
 rw [← HWe.out]
 clear HWe
 have KS : Hid (∀ w', Below W.heap.size W w' → Below W.heap.size W w' ∧ w'.cell? ⟨w.heap.size, 0, none⟩ = some (.int .i64 (sh : Int)) ∧ w'.cell? ⟨w.heap.size, 1, none⟩ = some (.slice la l.length lc) ∧ w'.cell? ⟨w.heap.size + 1, 0, none⟩ = some (.slice sa S.st.length sc)) := fun w' hb => ⟨hb, ext_cell hb y0, ext_cell hb y1, ext_cell hb z0⟩
 go_region_held3 (fun w' => Below W.heap.size W w' ∧ w'.cell? ⟨w.heap.size, 0, none⟩ = some (.int .i64 (sh : Int)) ∧ w'.cell? ⟨w.heap.size, 1, none⟩ = some (.slice la l.length lc) ∧ w'.cell? ⟨w.heap.size + 1, 0, none⟩ = some (.slice sa S.st.length sc)) ((refine KS.out _ ?_; go_split_ands; repeat (first | assumption | exact Below.refl _ _ | exact Hid.out (by assumption) | refine grow_drew ?_ | refine grow_alloc ?_ _ | refine grow_trans ?_ (by assumption))))
  (first
   | (go_at_call 37; refine (placeCheck_any la lc l (sh : Int) _ ?_).mono ?_; (refine HLW.out.below ?_; go_split_ands; repeat (first | assumption | exact Below.refl _ _ | exact Hid.out (by assumption) | refine grow_drew ?_ | refine grow_alloc ?_ _ | refine grow_trans ?_ (by assumption))); rintro e wx ⟨rfl, hbx⟩)
   | (go_at_call 30; refine (storeCheck_e S.st sa sc _).mono ?_; rintro e w' ⟨rfl, rfl⟩)
   | (go_at_call 13; refine (leave_zero [planE (sh : Int) l, lenE S.st] _ 2 _ (by simp) HE.out ?_).mono ?_; (exact errs2 _ _ _ _ (by simp)); rintro e w1 ⟨rfl, rfl⟩))
 have BW : Hid (Below W.heap.size W (w'.alloc (.cells #[.int .i64 (planE (sh : Int) l), .int .i64 (lenE S.st)] 30))) := grow_alloc (grow_trans (grow_drew (Below.refl _ _)) hbx) _
 go_split_ands
 generalize w'.alloc (.cells #[.int .i64 (planE (sh : Int) l), .int .i64 (lenE S.st)] 30) = w1 at *
 have q0 := ext_cell BW.out y0
 have q1 := ext_cell BW.out y1
 have r0 := ext_cell BW.out z0
 have r1 := ext_cell BW.out z1
 have r2 := ext_cell BW.out z2
 have r3 := ext_cell BW.out z3
 have B1 : Hid (Below w.heap.size w w1) := grow_trans hW.out BW.out
 have sz1 : Hid (w.heap.size + 2 ≤ w1.heap.size) := by have := BW.out.size; have := sW.out; show _ ≤ _; omega
 have bU : Below w1.heap.size w1 (w1.alloc (.cells #[.pointer (some ⟨w.heap.size, 0, none⟩), .slice sa S.st.length sc, .slice ra S.rd.length rc, .slice wa S.wr.length tc, .slice va S.vs.length vc, .slice none 0 0, .slice none 0 0, .slice none 0 0] 90)) := grow_alloc (Below.refl _ _) _
 have B2 : Hid (Below w.heap.size w (w1.alloc (.cells #[.pointer (some ⟨w.heap.size, 0, none⟩), .slice sa S.st.length sc, .slice ra S.rd.length rc, .slice wa S.wr.length tc, .slice va S.vs.length vc, .slice none 0 0, .slice none 0 0, .slice none 0 0] 90))) := grow_trans B1.out bU
 have c0 : (w1.alloc (.cells #[.pointer (some ⟨w.heap.size, 0, none⟩), .slice sa S.st.length sc, .slice ra S.rd.length rc, .slice wa S.wr.length tc, .slice va S.vs.length vc, .slice none 0 0, .slice none 0 0, .slice none 0 0] 90)).cell? ⟨w1.heap.size, 0, none⟩ = some (.pointer (some ⟨w.heap.size, 0, none⟩)) := at_new w1 _ 90 _ 0 _ rfl rfl
 have c1 : (w1.alloc (.cells #[.pointer (some ⟨w.heap.size, 0, none⟩), .slice sa S.st.length sc, .slice ra S.rd.length rc, .slice wa S.wr.length tc, .slice va S.vs.length vc, .slice none 0 0, .slice none 0 0, .slice none 0 0] 90)).cell? ⟨w1.heap.size, 1, none⟩ = some (.slice sa S.st.length sc) := at_new w1 _ 90 _ 1 _ rfl rfl
 have c2 : (w1.alloc (.cells #[.pointer (some ⟨w.heap.size, 0, none⟩), .slice sa S.st.length sc, .slice ra S.rd.length rc, .slice wa S.wr.length tc, .slice va S.vs.length vc, .slice none 0 0, .slice none 0 0, .slice none 0 0] 90)).cell? ⟨w1.heap.size, 2, none⟩ = some (.slice ra S.rd.length rc) := at_new w1 _ 90 _ 2 _ rfl rfl
 have c3 : (w1.alloc (.cells #[.pointer (some ⟨w.heap.size, 0, none⟩), .slice sa S.st.length sc, .slice ra S.rd.length rc, .slice wa S.wr.length tc, .slice va S.vs.length vc, .slice none 0 0, .slice none 0 0, .slice none 0 0] 90)).cell? ⟨w1.heap.size, 3, none⟩ = some (.slice wa S.wr.length tc) := at_new w1 _ 90 _ 3 _ rfl rfl
 have c4 : (w1.alloc (.cells #[.pointer (some ⟨w.heap.size, 0, none⟩), .slice sa S.st.length sc, .slice ra S.rd.length rc, .slice wa S.wr.length tc, .slice va S.vs.length vc, .slice none 0 0, .slice none 0 0, .slice none 0 0] 90)).cell? ⟨w1.heap.size, 4, none⟩ = some (.slice va S.vs.length vc) := at_new w1 _ 90 _ 4 _ rfl rfl
 have c5 : (w1.alloc (.cells #[.pointer (some ⟨w.heap.size, 0, none⟩), .slice sa S.st.length sc, .slice ra S.rd.length rc, .slice wa S.wr.length tc, .slice va S.vs.length vc, .slice none 0 0, .slice none 0 0, .slice none 0 0] 90)).cell? ⟨w1.heap.size, 5, none⟩ = some (.slice none 0 0) := at_new w1 _ 90 _ 5 _ rfl rfl
 have c6 : (w1.alloc (.cells #[.pointer (some ⟨w.heap.size, 0, none⟩), .slice sa S.st.length sc, .slice ra S.rd.length rc, .slice wa S.wr.length tc, .slice va S.vs.length vc, .slice none 0 0, .slice none 0 0, .slice none 0 0] 90)).cell? ⟨w1.heap.size, 6, none⟩ = some (.slice none 0 0) := at_new w1 _ 90 _ 6 _ rfl rfl
 have c7 : (w1.alloc (.cells #[.pointer (some ⟨w.heap.size, 0, none⟩), .slice sa S.st.length sc, .slice ra S.rd.length rc, .slice wa S.wr.length tc, .slice va S.vs.length vc, .slice none 0 0, .slice none 0 0, .slice none 0 0] 90)).cell? ⟨w1.heap.size, 7, none⟩ = some (.slice none 0 0) := at_new w1 _ 90 _ 7 _ rfl rfl
 have fz : ∀ j, (w1.alloc (.cells #[.pointer (some ⟨w.heap.size, 0, none⟩), .slice sa S.st.length sc, .slice ra S.rd.length rc, .slice wa S.wr.length tc, .slice va S.vs.length vc, .slice none 0 0, .slice none 0 0, .slice none 0 0] 90)).frozen? ⟨w1.heap.size, j, none⟩ = false := fun j => by simp
 have H0 : Hid (Hall0 (w1.alloc (.cells #[.pointer (some ⟨w.heap.size, 0, none⟩), .slice sa S.st.length sc, .slice ra S.rd.length rc, .slice wa S.wr.length tc, .slice va S.vs.length vc, .slice none 0 0, .slice none 0 0, .slice none 0 0] 90)) w1.heap.size w.heap.size sh l S la sa ra wa va lc sc rc tc vc) := ⟨c0, c1, c2, c3, c4, ext_cell bU q0, ext_cell bU q1, HL0.out.below B2.out, HST.out.below B2.out, hl8, hs4⟩
 have HLs : Hid (HL w (w1.alloc (.cells #[.pointer (some ⟨w.heap.size, 0, none⟩), .slice sa S.st.length sc, .slice ra S.rd.length rc, .slice wa S.wr.length tc, .slice va S.vs.length vc, .slice none 0 0, .slice none 0 0, .slice none 0 0] 90)) w1.heap.size w.heap.size sh l la lc (.slice sa S.st.length sc) (.slice ra S.rd.length rc) (.slice wa S.wr.length tc) (.slice va S.vs.length vc) (.slice none 0 0) (.slice none 0 0) (.slice none 0 0) [] [] []) := ⟨c0, c1, c2, c3, c4, c5, c6, c7, fz, ext_cell bU q0, ext_cell bU q1, Tri.nil _ _ _ _, B2.out, by have := sz1.out; omega, by have := sz1.out; omega, by simp⟩
 clear hbx KS y0 y1 z0 z1 z2 z3 HLW hW HE BW sW c0 c1 c2 c3 c4 c5 c6 c7 fz bU
 go_wp2_with fail
 generalize w1.alloc (.cells #[.pointer (some ⟨w.heap.size, 0, none⟩), .slice sa S.st.length sc, .slice ra S.rd.length rc, .slice wa S.wr.length tc, .slice va S.vs.length vc, .slice none 0 0, .slice none 0 0, .slice none 0 0] 90) = w2 at *
 generalize w1.heap.size = H at *
 have CF : Hid (Calls Tryz.prog 68 #[.pointer (some ⟨H, 0, none⟩)] w2 fun e w' => e = .returned (.int .i64 1) ∧ Below w2.heap.size w2 w') := by
  have hh := formError_any H0.out H8.out
  rw [HF.out] at hh
  exact hh
 refine CF.out.mono ?_
 rintro e w3 ⟨rfl, hb3⟩
 have B3 : Hid (Below w.heap.size w w3) := grow_trans B2.out hb3
 clear hb3 CF q0 q1 r0 r1 r2 r3
 go_wp2_with fail
 refine (leave_nz [1] _ 1 _ (by simp) (by decide) (errs1 _ _ _ rfl)).mono ?_
 rintro e w4 ⟨rfl, hw4⟩
 refine ⟨rfl, rfl, ?_⟩
 rw [hw4]
 exact grow_alloc B3.out _
end Go.Proofs.YtcgpkonfneofdaaGreat
