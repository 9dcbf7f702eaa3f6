/-
  Proved: for every store and transaction the law StoreApplies returns true: store.Check and store.Apply answer just what the document says, errors too; the arguments read afterwards as they read before.
  Conditions: none.
-/
import Derived.Test.YtfogphljilgogaaStoreL
import Derived.WalkKit
import Derived.WalkSpells
import Derived.WalkLawsBesides
import Derived.ProofKit
import Derived.OpenShut
import Derived.ChangeOld
import Derived.Deep.Slices
import Derived.Deep.Strs
import Derived.Deep.RegionHeld3
import Derived.BigQuiet
import Derived.Lib.SmallJoins
namespace Go.Proofs.Ytfogphljilgogaa
open Go.ChangeShapes Go.WideShapes Go.ChangeAt Go.RowKit Go.Deep


theorem apF_small (s : List Int) (x : TxA) : (apF s x).length ≤ 8 := by
  unfold apF
  split
  · rename_i h
    rw [aEnd_len]
    have := (serE_zero h).1
    omega
  · simp
theorem apV_small (s : List Int) (x : TxA) : (apV s x).length ≤ 4 := by
  unfold apV
  split
  · rename_i h
    have hc := (serE_zero h).2
    rw [chkL_one] at hc
    show (rdOf s x.rs).length ≤ 4
    rw [rdOf_len]
    exact (many_small _ _ _ (chk_parts hc).1).1
  · simp
theorem lenE_is (s : List Int) : (lenE s == 0) = decide (s.length = 8) := by
  unfold lenE
  by_cases h : s.length = 8
  · simp [h]
  · simp [h]

variable (sa : Option Addr) (sc : Nat) (s : List Int) (ra ga ta : Option Addr) (rc gc tc : Nat) (rs : List Int) (gs : List Gd) (ss : List St)

set_option maxRecDepth 100000 in
set_option maxHeartbeats 2000000 in
theorem storeApplies_walk (w : World) (hs : IsInts w sa s) (hx : IsX w ⟨ra, ga, ta, rc, gc, tc, rs, gs, ss⟩) :
    Calls Try.prog 3 #[.slice sa s.length sc, .agg #[.slice ra rs.length rc, .slice ga gs.length gc, .slice ta ss.length tc]] w fun e w' => e = .returned (.bool true) ∧ Below w.heap.size w w' := by
  have HS : Hid (IsInts w sa s) := hs
  have HX : Hid (IsX w ⟨ra, ga, ta, rc, gc, tc, rs, gs, ss⟩) := hx
  have b1 : Hid ((apF s ⟨ra, ga, ta, rc, gc, tc, rs, gs, ss⟩).length ≤ maxLen) := by show _ ≤ _; have := apF_small s ⟨ra, ga, ta, rc, gc, tc, rs, gs, ss⟩; unfold maxLen; omega
  have b2 : Hid ((apV s ⟨ra, ga, ta, rc, gc, tc, rs, gs, ss⟩).length ≤ maxLen) := by show _ ≤ _; have := apV_small s ⟨ra, ga, ta, rc, gc, tc, rs, gs, ss⟩; unfold maxLen; omega
  have C1 : Hid (∀ w', IsInts w' sa s → IsX w' ⟨ra, ga, ta, rc, gc, tc, rs, gs, ss⟩ → Calls Try.prog 11 #[.slice sa s.length sc, .agg #[.slice ra rs.length rc, .slice ga gs.length gc, .slice ta ss.length tc]] w' fun e w'' => ∃ ea ec va vc, e = .returned (.tuple #[.slice ea (apF s ⟨ra, ga, ta, rc, gc, tc, rs, gs, ss⟩).length ec, .agg #[.bool (apD s ⟨ra, ga, ta, rc, gc, tc, rs, gs, ss⟩), .slice va (apV s ⟨ra, ga, ta, rc, gc, tc, rs, gs, ss⟩).length vc], .int .i64 (serE s [⟨ra, ga, ta, rc, gc, tc, rs, gs, ss⟩])]) ∧ IsInts w'' ea (apF s ⟨ra, ga, ta, rc, gc, tc, rs, gs, ss⟩) ∧ IsInts w'' va (apV s ⟨ra, ga, ta, rc, gc, tc, rs, gs, ss⟩) ∧ Below w'.heap.size w' w'') := fun w' h1 h2 => storeApply_any sa sc s ra ga ta rc gc tc rs gs ss w' h1 h2
  have C2 : Hid (∀ w', IsInts w' sa s → IsX w' ⟨ra, ga, ta, rc, gc, tc, rs, gs, ss⟩ → Calls Try.prog 12 #[.slice sa s.length sc, .agg #[.slice ra rs.length rc, .slice ga gs.length gc, .slice ta ss.length tc]] w' fun e w'' => ∃ ea ec va vc, e = .returned (.tuple #[.slice ea (apF s ⟨ra, ga, ta, rc, gc, tc, rs, gs, ss⟩).length ec, .agg #[.bool (apD s ⟨ra, ga, ta, rc, gc, tc, rs, gs, ss⟩), .slice va (apV s ⟨ra, ga, ta, rc, gc, tc, rs, gs, ss⟩).length vc], .int .i64 (serE s [⟨ra, ga, ta, rc, gc, tc, rs, gs, ss⟩])]) ∧ IsInts w'' ea (apF s ⟨ra, ga, ta, rc, gc, tc, rs, gs, ss⟩) ∧ IsInts w'' va (apV s ⟨ra, ga, ta, rc, gc, tc, rs, gs, ss⟩) ∧ Below w'.heap.size w' w'') := fun w' h1 h2 => applyOf_any sa sc s ra ga ta rc gc tc rs gs ss w' h1 h2
  have C3 : Hid (∀ w', Calls Try.prog 14 #[.slice sa s.length sc] w' fun e w'' => e = .returned (.int .i64 (lenE s)) ∧ w'' = w') := fun w' => storeCheck_e s sa sc w'
  have C4 : Hid (∀ w', Calls Try.prog 15 #[.slice sa s.length sc] w' fun e w'' => e = .returned (.bool (lenE s == 0)) ∧ w'' = w') := fun w' => by rw [lenE_is]; exact isStore_any s sa sc w'
  generalize apF s ⟨ra, ga, ta, rc, gc, tc, rs, gs, ss⟩ = E at *
  generalize apV s ⟨ra, ga, ta, rc, gc, tc, rs, gs, ss⟩ = Z at *
  generalize apD s ⟨ra, ga, ta, rc, gc, tc, rs, gs, ss⟩ = D at *
  generalize serE s [⟨ra, ga, ta, rc, gc, tc, rs, gs, ss⟩] = er at *
  generalize lenE s = le at *
  clear hs hx
  go_enter Try.func3, Try.ntmps3
  go_wp2_with fail
  refine (C1.out _ (HS.out.below (grow_alloc (Below.refl _ _) _)) (HX.out.below (grow_alloc (Below.refl _ _) _))).mono ?_
  rintro e w1 ⟨ea, ec, va, vc, rfl, hE1, hV1, hb1⟩
  have U1 : Below w1.heap.size w1 (w1.alloc (.cells #[.bool D, .slice va Z.length vc] 28)) := grow_alloc (Below.refl _ _) _
  have x0 : w1.cell? ⟨w.heap.size, 0, none⟩ = some (.slice ra rs.length rc) := ext_cell hb1 (by simp)
  have x1 : w1.cell? ⟨w.heap.size, 1, none⟩ = some (.slice ga gs.length gc) := ext_cell hb1 (by simp)
  have x2 : w1.cell? ⟨w.heap.size, 2, none⟩ = some (.slice ta ss.length tc) := ext_cell hb1 (by simp)
  have y0 := ext_cell U1 x0
  have y1 := ext_cell U1 x1
  have y2 := ext_cell U1 x2
  have r0 : (w1.alloc (.cells #[.bool D, .slice va Z.length vc] 28)).cell? ⟨w1.heap.size, 0, none⟩ = some (.bool D) := by simp
  have r1 : (w1.alloc (.cells #[.bool D, .slice va Z.length vc] 28)).cell? ⟨w1.heap.size, 1, none⟩ = some (.slice va Z.length vc) := by simp
  have hE2 : Hid (IsInts (w1.alloc (.cells #[.bool D, .slice va Z.length vc] 28)) ea E) := hE1.below U1
  have hV2 : Hid (IsInts (w1.alloc (.cells #[.bool D, .slice va Z.length vc] 28)) va Z) := hV1.below U1
  have B1 : Hid (Below w.heap.size w (w1.alloc (.cells #[.bool D, .slice va Z.length vc] 28))) := grow_trans (grow_trans (grow_alloc (Below.refl _ _) _) hb1) U1
  clear x0 x1 x2 U1 hE1 hV1 hb1
  go_upto_region 2 with fail
  generalize (w1.alloc (.cells #[.bool D, .slice va Z.length vc] 28)) = W1 at *
  generalize w1.heap.size = R1 at *
  go_wp2_with fail
  refine (C2.out _ (HS.out.below B1.out) (HX.out.below B1.out)).mono ?_
  rintro e w2 ⟨ea2, ec2, va2, vc2, rfl, hE3, hV3, hb2⟩
  have U2 : Below w2.heap.size w2 (w2.alloc (.cells #[.bool D, .slice va2 Z.length vc2] 28)) := grow_alloc (Below.refl _ _) _
  have s0 := ext_cell (grow_trans hb2 U2) r0
  have s1 := ext_cell (grow_trans hb2 U2) r1
  have t0 : (w2.alloc (.cells #[.bool D, .slice va2 Z.length vc2] 28)).cell? ⟨w2.heap.size, 0, none⟩ = some (.bool D) := by simp
  have t1 : (w2.alloc (.cells #[.bool D, .slice va2 Z.length vc2] 28)).cell? ⟨w2.heap.size, 1, none⟩ = some (.slice va2 Z.length vc2) := by simp
  have hE4 : Hid (IsInts (w2.alloc (.cells #[.bool D, .slice va2 Z.length vc2] 28)) ea E) := hE2.out.below (grow_trans hb2 U2)
  have hV4 : Hid (IsInts (w2.alloc (.cells #[.bool D, .slice va2 Z.length vc2] 28)) va Z) := hV2.out.below (grow_trans hb2 U2)
  have hE5 : Hid (IsInts (w2.alloc (.cells #[.bool D, .slice va2 Z.length vc2] 28)) ea2 E) := hE3.below U2
  have hV5 : Hid (IsInts (w2.alloc (.cells #[.bool D, .slice va2 Z.length vc2] 28)) va2 Z) := hV3.below U2
  have B2 : Hid (Below w.heap.size w (w2.alloc (.cells #[.bool D, .slice va2 Z.length vc2] 28))) := grow_trans B1.out (grow_trans hb2 U2)
  clear y0 y1 y2 r0 r1 U2 hE2 hV2 hE3 hV3 hb2 B1
  go_upto_region 3 with fail
  generalize (w2.alloc (.cells #[.bool D, .slice va2 Z.length vc2] 28)) = W2 at *
  generalize w2.heap.size = R2 at *
  go_wp2_with fail
  refine (storeBegun_any _).mono ?_
  rintro e w3 ⟨rfl, hb3⟩
  go_wp2_with fail
  refine (C3.out _).mono ?_
  rintro e w' ⟨rfl, hw'⟩
  rw [hw']
  clear hw' w'
  go_wp2_with fail
  refine (C4.out _).mono ?_
  rintro e w' ⟨rfl, hw'⟩
  rw [hw']
  clear hw' w'
  have a0 := ext_cell hb3 s0
  have a1 := ext_cell hb3 s1
  have a2 := ext_cell hb3 t0
  have a3 := ext_cell hb3 t1
  clear s0 s1 t0 t1
  go_wp2_with fail
  refine (sameInts_any E E ea ea2 ec ec2 _ b1.out (hE4.out.below hb3) (hE5.out.below hb3)).mono ?_
  rintro e w4 ⟨rfl, hb4⟩
  have c0 := ext_cell hb4 a0
  have c1 := ext_cell hb4 a1
  have c2 := ext_cell hb4 a2
  have c3 := ext_cell hb4 a3
  clear a0 a1 a2 a3
  go_wp2_with fail
  refine (sameInts_any Z Z va va2 vc vc2 _ b2.out (hV4.out.below (grow_trans hb3 hb4)) (hV5.out.below (grow_trans hb3 hb4))).mono ?_
  rintro e w5 ⟨rfl, hb5⟩
  have B5 : Below w.heap.size w w5 := grow_trans B2.out (grow_trans (grow_trans hb3 hb4) hb5)
  clear hb3 hb4 hb5
  go_wp2
  go_ret
  exact ⟨by simp, B5⟩

set_option maxRecDepth 100000 in
theorem storeApplies_lifted (os : Os) (started : os.Started) (H : Type) (enc : TypeId × Value → H) :
    ReturnsInHanded {} Try.checked os 3 .any (Rows.storeAppliesSpec.pre6 enc Try.prog Try.f3 Rows.storeAppliesRow.domain false) (Rows.storeAppliesSpec.post enc Try.prog Try.f3 false true false false) := by
  refine returnsInHanded_of_change (C := Try.checked) ownK started (by kernel_rfl) Try.func3
    (ChangeSpec.witness6 (enc := enc) (C := Try.checked) false ⟨#[], #[.slice none 0 0, .agg #[.slice none 0 0, .slice none 0 0, .slice none 0 0]], []⟩ 8 (by kernel_rfl) (by kernel_rfl) (by kernel_rfl) (by kernel_rfl)) ?_
  intro W base args ds gs0 before hval0 hW hcnd _
  have hval : ∀ (j : Nat) t v, Try.f3.params[j]? = some t → args[j]? = some v → Value.okWide Try.prog W .any base t v := hval0
  have hW' := hW
  obtain ⟨p, q, hA0, hV, rfl, hfz, hnd⟩ := hW
  have hA : DataW.TrodAll enc Try.prog W 0 (fun _ => true) true Try.f3.params.toList args.toList ds p := hA0
  rw [Try.params3] at hA hval
  obtain ⟨v0, vs0, d0, ds0, p0, q0, hargs, rfl, rfl, h0, r0⟩ := trodAll_cons hA
  obtain ⟨v1, vs1, d1, ds1, p1, q1, rfl, rfl, rfl, h1, r1⟩ := trodAll_cons r0
  obtain ⟨rfl, rfl, rfl⟩ := trodAll_nil r1
  obtain rfl : args = #[v0, v1] := by cases args; simp_all
  obtain ⟨rfl, rfl⟩ := trodVars_none hV
  have k0 := h0
  have lt0 : ∀ x ∈ p0, x.block < W.heap.size := by obtain ⟨m, hm⟩ := k0; exact DataW.trod_lt m _ _ _ hm
  have k1 := h1
  have lt1 : ∀ x ∈ p1, x.block < W.heap.size := by obtain ⟨m, hm⟩ := k1; exact DataW.trod_lt m _ _ _ hm
  obtain ⟨za0, zs0, zc0, rfl, hzl0, hz0, hzn0⟩ := open_zs (hval 0 22 v0 rfl rfl) h0
  obtain ⟨ra1, ga1, ta1, rc1, gc1, tc1, rs1, gs1, ss1, rfl, htx1, hrn1, hgn1, hsn1⟩ := open_tx (hval 1 26 v1 rfl rfl) h1
  clear hA0 hval0
  refine (storeApplies_walk za0 zc0 zs0 ra1 ga1 ta1 rc1 gc1 tc1 rs1 gs1 ss1 W hz0 ⟨htx1, hrn1, hgn1, hsn1⟩).mono fun e W' ⟨he, bel⟩ => ?_
  subst he
  exact ⟨_, rfl, _, _, _, [], _, [], hW', trodAll_mk1 (shut_bool Try.underlying4 _), (trodAll_cons_mk (Below.trod laidOutK (by kernel_rfl) (of_decide_eq_true (by kernel_rfl)) k0 bel lt0) (trodAll_cons_mk (Below.trod laidOutK (by kernel_rfl) (of_decide_eq_true (by kernel_rfl)) k1 bel lt1) trodAll_mk0)), rfl, bel.frame _, fun h => by cases h⟩

set_option maxRecDepth 100000 in
theorem storeApplies_over : Rows.storeAppliesRow.holds Try.pinned (OpenSpec.ofChange Rows.storeAppliesSpec) :=
  OpenClaim.holds_of_wide 3 Try.f3 rfl rfl rfl rfl rfl rfl rfl ⟨rfl, rfl, rfl, rfl, rfl⟩ rfl rfl rfl rfl rfl (by kernel_rfl) Try.func3 (by kernel_rfl)
    (of_decide_eq_true (by kernel_rfl)) (by unfold Func.isWrapper; first | (rw [if_pos (by decide +kernel)]; kernel_rfl) | (rw [if_neg (by decide +kernel)]; exact ⟨rfl, rfl⟩))
    (fun os started H enc _ => storeApplies_lifted os started H enc)

/-- The statement. -/
theorem storeApplies_holds : Rows.StoreAppliesSaid := storeApplies_over
#print axioms storeApplies_holds
end Go.Proofs.Ytfogphljilgogaa
