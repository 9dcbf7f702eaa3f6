/-
  Proved: for every plan, key and number the law PlaceTells returns true: place.Check, Shard, Part and Active answer what the document's own answers are, errors too; the arguments read afterwards as they read before.
  Conditions: none.
-/
import Derived.Test.YtfogphljilgogaaPlaceI
import Derived.Test.YtfogphljilgogaaPlaceJ
import Derived.WalkKit
import Derived.WalkSpells
import Derived.WalkLawsBesides
import Derived.ProofKit
import Derived.OpenShut
import Derived.ChangeOld
import Derived.Deep.Slices
import Derived.Deep.Strs
import Derived.Deep.RegionHeld3
import Derived.BigQuiet
import Derived.Lib.SmallJoins
namespace Go.Proofs.Ytfogphljilgogaa
open Go.ChangeShapes Go.WideShapes Go.ChangeAt Go.RowKit Go.Deep


theorem partL_len (m : Int) (l : List TxA) (n : Int) : (partL m l n).length ≤ 100 := by
  unfold partL
  by_cases c : pnE m l n = 0
  · rw [if_pos c, marks_len]
    have := planE_zero (pnE_zero c).1
    omega
  · rw [if_neg c]; simp
theorem activeL_len (m : Int) (l : List TxA) (n : Int) : (activeL m l n).length ≤ 100 := by
  unfold activeL
  by_cases c : pnE m l n = 0
  · rw [if_pos c, marks_len]
    have := planE_zero (pnE_zero c).1
    omega
  · rw [if_neg c]; simp

theorem placeTells_walk (la : Option Addr) (lc : Nat) (l : List TxA) (m key n : Int) (w : World) (hl : IsTxs w la l) :
    Calls Try.prog 7 #[.agg #[.int .i64 m, .slice la l.length lc], .int .i64 key, .int .i64 n] w fun e w' => e = .returned (.bool true) ∧ Below w.heap.size w w' := by
  have CS := fun w h => shard_any la lc l m key w h
  have CP := fun w h => part_any la lc l m n w h
  have CA := fun w h => active_any la lc l m n w h
  have CK := fun w h => checkPlan_any la lc l m w h
  have CC := fun w h => placeCheck_any la lc l m w h
  have CU := fun w h => planError_any la lc l m n w h
  by_cases hx : planE m l = 0
  · have hp := planE_zero hx
    have CXY : pnE m l n = 0 → (∀ w, IsTxs w la l → Calls Try.prog 26 #[.agg #[.int .i64 m, .slice la l.length lc], .int .i64 n] w fun e w' => ∃ a c, e = .returned (.slice a (partL m l n).length c) ∧ IsBools w' a (partL m l n) ∧ Below w.heap.size w w') ∧ (∀ w, IsTxs w la l → Calls Try.prog 27 #[.agg #[.int .i64 m, .slice la l.length lc], .int .i64 n] w fun e w' => ∃ a c, e = .returned (.slice a (activeL m l n).length c) ∧ IsBools w' a (activeL m l n) ∧ Below w.heap.size w w') := fun hu => by
      have hn := noneE_zero (pnE_zero hu).2
      obtain ⟨sh, rfl⟩ : ∃ sh : Nat, m = sh := ⟨m.toNat, by omega⟩
      obtain ⟨k, rfl⟩ : ∃ k : Nat, n = k := ⟨n.toNat, by omega⟩
      have e1 : partL sh l k = marks sh (keysIn (locksAt l k)) := if_pos hu
      have e2 : activeL sh l k = marks sh (setsIn (locksAt l k)) := if_pos hu
      rw [e1, e2]
      exact ⟨fun w h => partOf_any la lc l sh k w h hu, fun w h => activeOf_any la lc l sh k w h hu⟩
    rw [hx] at CK CC
    by_cases hu : pnE m l n = 0
    · obtain ⟨CX, CY⟩ := CXY hu
      rw [hu] at CP CA CU
      have hP := partL_len m l n
      have hA := activeL_len m l n
      generalize partL m l n = P at *
      generalize activeL m l n = A at *
      by_cases k1 : key < 0
      · have e1 : shardE m l key = 3 := by unfold shardE; rw [hx, if_pos (.inl k1)]; rfl
        have e2 : shardV m l key = 0 := by unfold shardV; rw [e1]; rfl
        rw [e1, e2] at CS
        exact placeTells_neg0 la lc l m key n k1 P A hP hA CS CP CA CK CC CU CX CY w hl
      · by_cases k2 : 8 ≤ key
        · have e1 : shardE m l key = 3 := by unfold shardE; rw [hx, if_pos (.inr k2)]; rfl
          have e2 : shardV m l key = 0 := by unfold shardV; rw [e1]; rfl
          rw [e1, e2] at CS
          exact placeTells_big0 la lc l m key n k1 k2 P A hP hA CS CP CA CK CC CU CX CY w hl
        · have e1 : shardE m l key = 0 := by unfold shardE; rw [hx, if_neg (by omega)]; rfl
          have e2 : shardV m l key = key % m := by unfold shardV; rw [if_pos e1]
          rw [e1, e2] at CS
          clear e1 e2 hx hu CXY
          obtain ⟨sh, rfl⟩ : ∃ sh : Nat, m = sh := ⟨m.toNat, by omega⟩
          obtain ⟨k, rfl⟩ : ∃ k : Nat, key = k := ⟨key.toNat, by omega⟩
          exact placeTells_in0 la lc l n sh k (by omega) (by omega) (by omega) P A hP hA CS CP CA CK CC CU CX CY w hl
    · have f1 : partL m l n = [] := if_neg hu
      have f2 : activeL m l n = [] := if_neg hu
      rw [f1] at CP
      rw [f2] at CA
      generalize pnE m l n = u at *
      have hu' : (u == 0) = false := by simpa using hu
      by_cases k1 : key < 0
      · have e1 : shardE m l key = 3 := by unfold shardE; rw [hx, if_pos (.inl k1)]; rfl
        have e2 : shardV m l key = 0 := by unfold shardV; rw [e1]; rfl
        rw [e1, e2] at CS
        exact placeTells_negu la lc l m key n u hu' k1 CS CP CA CK CC CU w hl
      · by_cases k2 : 8 ≤ key
        · have e1 : shardE m l key = 3 := by unfold shardE; rw [hx, if_pos (.inr k2)]; rfl
          have e2 : shardV m l key = 0 := by unfold shardV; rw [e1]; rfl
          rw [e1, e2] at CS
          exact placeTells_bigu la lc l m key n u hu' k1 k2 CS CP CA CK CC CU w hl
        · have e1 : shardE m l key = 0 := by unfold shardE; rw [hx, if_neg (by omega)]; rfl
          have e2 : shardV m l key = key % m := by unfold shardV; rw [if_pos e1]
          rw [e1, e2] at CS
          clear e1 e2 hx CXY f1 f2
          obtain ⟨sh, rfl⟩ : ∃ sh : Nat, m = sh := ⟨m.toNat, by omega⟩
          obtain ⟨k, rfl⟩ : ∃ k : Nat, key = k := ⟨key.toNat, by omega⟩
          exact placeTells_inu la lc l n u hu' sh k (by omega) (by omega) (by omega) CS CP CA CK CC CU w hl
  · have hu : pnE m l n = planE m l := by unfold pnE; simp only [firstNZ, if_neg hx]
    have e1 : shardE m l key = planE m l := by unfold shardE; simp only [firstNZ, if_neg hx]
    have e2 : shardV m l key = 0 := by unfold shardV; rw [e1, if_neg hx]
    have f1 : partL m l n = [] := if_neg (by rw [hu]; exact hx)
    have f2 : activeL m l n = [] := if_neg (by rw [hu]; exact hx)
    rw [f1, hu] at CP
    rw [f2, hu] at CA
    rw [hu] at CU
    rw [e1, e2] at CS
    exact placeTells_plan la lc l m key n (planE m l) (by simpa using hx) CS CP CA CK CC CU w hl

set_option maxRecDepth 100000 in
theorem placeTells_lifted (os : Os) (started : os.Started) (H : Type) (enc : TypeId × Value → H) :
    ReturnsInHanded {} Try.checked os 7 .any (Rows.placeTellsSpec.pre6 enc Try.prog Try.f7 Rows.placeTellsRow.domain false) (Rows.placeTellsSpec.post enc Try.prog Try.f7 false true false false) := by
  refine returnsInHanded_of_change (C := Try.checked) ownK started (by kernel_rfl) Try.func7
    (ChangeSpec.witness6 (enc := enc) (C := Try.checked) false ⟨#[], #[.agg #[.int .i64 0, .slice none 0 0], .int .i64 0, .int .i64 0], []⟩ 8 (by kernel_rfl) (by kernel_rfl) (by kernel_rfl) (by kernel_rfl)) ?_
  intro W base args ds gs0 before hval0 hW hcnd _
  have hval : ∀ (j : Nat) t v, Try.f7.params[j]? = some t → args[j]? = some v → Value.okWide Try.prog W .any base t v := hval0
  have hW' := hW
  obtain ⟨p, q, hA0, hV, rfl, hfz, hnd⟩ := hW
  have hA : DataW.TrodAll enc Try.prog W 0 (fun _ => true) true Try.f7.params.toList args.toList ds p := hA0
  rw [Try.params7] at hA hval
  obtain ⟨v0, vs0, d0, ds0, p0, q0, hargs, rfl, rfl, h0, r0⟩ := trodAll_cons hA
  obtain ⟨v1, vs1, d1, ds1, p1, q1, rfl, rfl, rfl, h1, r1⟩ := trodAll_cons r0
  obtain ⟨v2, vs2, d2, ds2, p2, q2, rfl, rfl, rfl, h2, r2⟩ := trodAll_cons r1
  obtain ⟨rfl, rfl, rfl⟩ := trodAll_nil r2
  obtain rfl : args = #[v0, v1, v2] := by cases args; simp_all
  obtain ⟨rfl, rfl⟩ := trodVars_none hV
  have k0 := h0
  have lt0 : ∀ x ∈ p0, x.block < W.heap.size := by obtain ⟨m, hm⟩ := k0; exact DataW.trod_lt m _ _ _ hm
  have k1 := h1
  have lt1 : ∀ x ∈ p1, x.block < W.heap.size := by obtain ⟨m, hm⟩ := k1; exact DataW.trod_lt m _ _ _ hm
  have k2 := h2
  have lt2 : ∀ x ∈ p2, x.block < W.heap.size := by obtain ⟨m, hm⟩ := k2; exact DataW.trod_lt m _ _ _ hm
  obtain ⟨m0, la0, l0, lc0, rfl, hl0⟩ := open_p (hval 0 51 v0 rfl rfl) h0
  obtain ⟨n1, rfl, hn1⟩ := open_n (hval 1 3 v1 rfl rfl) h1
  obtain ⟨n2, rfl, hn2⟩ := open_n (hval 2 3 v2 rfl rfl) h2
  clear hA0 hval0
  refine (placeTells_walk la0 lc0 l0 m0 n1 n2 W hl0).mono fun e W' ⟨he, bel⟩ => ?_
  subst he
  exact ⟨_, rfl, _, _, _, [], _, [], hW', trodAll_mk1 (shut_bool Try.underlying4 _), (trodAll_cons_mk (Below.trod laidOutK (by kernel_rfl) (of_decide_eq_true (by kernel_rfl)) k0 bel lt0) (trodAll_cons_mk (Below.trod laidOutK (by kernel_rfl) (of_decide_eq_true (by kernel_rfl)) k1 bel lt1) (trodAll_cons_mk (Below.trod laidOutK (by kernel_rfl) (of_decide_eq_true (by kernel_rfl)) k2 bel lt2) trodAll_mk0))), rfl, bel.frame _, fun h => by cases h⟩

set_option maxRecDepth 100000 in
theorem placeTells_over : Rows.placeTellsRow.holds Try.pinned (OpenSpec.ofChange Rows.placeTellsSpec) :=
  OpenClaim.holds_of_wide 7 Try.f7 rfl rfl rfl rfl rfl rfl rfl ⟨rfl, rfl, rfl, rfl, rfl⟩ rfl rfl rfl rfl rfl (by kernel_rfl) Try.func7 (by kernel_rfl)
    (of_decide_eq_true (by kernel_rfl)) (by unfold Func.isWrapper; first | (rw [if_pos (by decide +kernel)]; kernel_rfl) | (rw [if_neg (by decide +kernel)]; exact ⟨rfl, rfl⟩))
    (fun os started H enc _ => placeTells_lifted os started H enc)

/-- The statement. -/
theorem placeTells_holds : Rows.PlaceTellsSaid := placeTells_over
#print axioms placeTells_holds
end Go.Proofs.Ytfogphljilgogaa
