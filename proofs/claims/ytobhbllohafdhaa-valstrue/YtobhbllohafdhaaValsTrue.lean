/-
  Proved: for every a and b the law ValsTrue returns true: what was added and taken away is what it was; the lesser and the greater one are the two; NoAbove is Below or Same, Unlike is not Same. The arguments read afterwards as they read before.
  Conditions: none.
-/
import Derived.Test.YtobhbllohafdhaaFrame
import Derived.WalkKit
import Derived.WalkSpells
import Derived.WalkLawsBesides
import Derived.ProofKit
import Derived.OpenShut
import Derived.ChangeOld
import Derived.Deep.RegionHeld3
import Derived.BigQuiet
import Derived.Lib.SmallJoins
namespace Go.Proofs.Ytobhbllohafdhaa
open Go.ChangeShapes Go.WideShapes Go.ChangeAt Go.RowKit

theorem reckBack (a b : Int) (h : (Lit.int .i64 a).wf = true) : reckV 3 (reckV 2 a b) b = a := by
  simp only [Lit.wf, Bool.and_eq_true, decide_eq_true_eq] at h
  have hmin : IntKind.i64.min = -9223372036854775808 := rfl
  have hmax : IntKind.i64.max = 9223372036854775807 := rfl
  rw [hmin, hmax] at h
  simp [reckV]
  unfold wrap64
  omega

theorem valsTrue_lt (a b : Int) (hw : (Lit.int .i64 a).wf = true) (hab : a < b) (w : World) :
    Calls Try.prog 5 #[.int .i64 a, .int .i64 b] w fun e w' => e = .returned (.bool true) ∧ Below w.heap.size w w' := by
  have s2 := reckBack a b hw
  have t0 : reckV 5 a b = a := by simp [reckV, lesser]; omega
  have t1 : reckV 6 a b = b := by simp [reckV, greater]; omega
  have t2 : holdV 1 a b = false := by simp [holdV]; omega
  have t3 : holdV 2 a b = true := by simp [holdV]; omega
  have t4 : holdV 3 a b = true := by simp [holdV]; omega
  have t5 : holdV 4 a b = true := by simp [holdV]; omega
  have re2 : reckE 2 = 0 := by decide
  have re3 : reckE 3 = 0 := by decide
  have re5 : reckE 5 = 0 := by decide
  have re6 : reckE 6 = 0 := by decide
  have he1 : holdE 1 = 0 := by decide
  have he2 : holdE 2 = 0 := by decide
  have he3 : holdE 3 = 0 := by decide
  have he4 : holdE 4 = 0 := by decide
  have c1 : decide (a ≤ b) = true := by simp; omega
  clear hw
  go_enter Try.func5, Try.ntmps5
  go_wp2_with fail
  refine (reckon_any 2 a b _).mono ?_
  rintro e w1 ⟨rfl, hb1⟩
  go_wp2_with fail
  refine (reckon_any 3 (reckV 2 a b) b _).mono ?_
  rintro e w2 ⟨rfl, hb2⟩
  go_wp2_with fail
  refine (reckon_any 5 a b _).mono ?_
  rintro e w3 ⟨rfl, hb3⟩
  go_wp2_with fail
  refine (reckon_any 6 a b _).mono ?_
  rintro e w4 ⟨rfl, hb4⟩
  go_wp2_with fail
  refine (holds_any 1 a b _).mono ?_
  rintro e w5 ⟨rfl, hb5⟩
  go_wp2_with fail
  refine (holds_any 2 a b _).mono ?_
  rintro e w6 ⟨rfl, hb6⟩
  go_wp2_with fail
  refine (holds_any 3 a b _).mono ?_
  rintro e w7 ⟨rfl, hb7⟩
  go_wp2_with fail
  refine (holds_any 4 a b _).mono ?_
  rintro e w8 ⟨rfl, hb8⟩
  go_wp2_with fail
  refine (valsBegun_any _).mono ?_
  rintro e w9 ⟨rfl, hb9⟩
  go_wp2
  go_ret
  refine ⟨rfl, ?_⟩
  repeat (first | exact Below.refl _ _ | refine grow_alloc ?_ _ | refine grow_drew ?_ | refine grow_trans ?_ (by assumption))

theorem valsTrue_gt (a b : Int) (hw : (Lit.int .i64 a).wf = true) (hab : b < a) (w : World) :
    Calls Try.prog 5 #[.int .i64 a, .int .i64 b] w fun e w' => e = .returned (.bool true) ∧ Below w.heap.size w w' := by
  have s2 := reckBack a b hw
  have t0 : reckV 5 a b = b := by simp [reckV, lesser]; omega
  have t1 : reckV 6 a b = a := by simp [reckV, greater]; omega
  have t2 : holdV 1 a b = false := by simp [holdV]; omega
  have t3 : holdV 2 a b = true := by simp [holdV]; omega
  have t4 : holdV 3 a b = false := by simp [holdV]; omega
  have t5 : holdV 4 a b = false := by simp [holdV]; omega
  have re2 : reckE 2 = 0 := by decide
  have re3 : reckE 3 = 0 := by decide
  have re5 : reckE 5 = 0 := by decide
  have re6 : reckE 6 = 0 := by decide
  have he1 : holdE 1 = 0 := by decide
  have he2 : holdE 2 = 0 := by decide
  have he3 : holdE 3 = 0 := by decide
  have he4 : holdE 4 = 0 := by decide
  have c1 : decide (b ≤ a) = true := by simp; omega
  have c2 : (b == a) = false := by simp; omega
  clear hw
  go_enter Try.func5, Try.ntmps5
  go_wp2_with fail
  refine (reckon_any 2 a b _).mono ?_
  rintro e w1 ⟨rfl, hb1⟩
  go_wp2_with fail
  refine (reckon_any 3 (reckV 2 a b) b _).mono ?_
  rintro e w2 ⟨rfl, hb2⟩
  go_wp2_with fail
  refine (reckon_any 5 a b _).mono ?_
  rintro e w3 ⟨rfl, hb3⟩
  go_wp2_with fail
  refine (reckon_any 6 a b _).mono ?_
  rintro e w4 ⟨rfl, hb4⟩
  go_wp2_with fail
  refine (holds_any 1 a b _).mono ?_
  rintro e w5 ⟨rfl, hb5⟩
  go_wp2_with fail
  refine (holds_any 2 a b _).mono ?_
  rintro e w6 ⟨rfl, hb6⟩
  go_wp2_with fail
  refine (holds_any 3 a b _).mono ?_
  rintro e w7 ⟨rfl, hb7⟩
  go_wp2_with fail
  refine (holds_any 4 a b _).mono ?_
  rintro e w8 ⟨rfl, hb8⟩
  go_wp2_with fail
  refine (valsBegun_any _).mono ?_
  rintro e w9 ⟨rfl, hb9⟩
  go_wp2
  go_ret
  refine ⟨rfl, ?_⟩
  repeat (first | exact Below.refl _ _ | refine grow_alloc ?_ _ | refine grow_drew ?_ | refine grow_trans ?_ (by assumption))

theorem valsTrue_eq (a : Int) (hw : (Lit.int .i64 a).wf = true) (w : World) :
    Calls Try.prog 5 #[.int .i64 a, .int .i64 a] w fun e w' => e = .returned (.bool true) ∧ Below w.heap.size w w' := by
  have s2 := reckBack a a hw
  have t0 : reckV 5 a a = a := by simp [reckV, lesser]
  have t1 : reckV 6 a a = a := by simp [reckV, greater]
  have t2 : holdV 1 a a = true := by simp [holdV]
  have t3 : holdV 2 a a = false := by simp [holdV]
  have t4 : holdV 3 a a = false := by simp [holdV]
  have t5 : holdV 4 a a = true := by simp [holdV]
  have re2 : reckE 2 = 0 := by decide
  have re3 : reckE 3 = 0 := by decide
  have re5 : reckE 5 = 0 := by decide
  have re6 : reckE 6 = 0 := by decide
  have he1 : holdE 1 = 0 := by decide
  have he2 : holdE 2 = 0 := by decide
  have he3 : holdE 3 = 0 := by decide
  have he4 : holdE 4 = 0 := by decide
  clear hw
  go_enter Try.func5, Try.ntmps5
  go_wp2_with fail
  refine (reckon_any 2 a a _).mono ?_
  rintro e w1 ⟨rfl, hb1⟩
  go_wp2_with fail
  refine (reckon_any 3 (reckV 2 a a) a _).mono ?_
  rintro e w2 ⟨rfl, hb2⟩
  go_wp2_with fail
  refine (reckon_any 5 a a _).mono ?_
  rintro e w3 ⟨rfl, hb3⟩
  go_wp2_with fail
  refine (reckon_any 6 a a _).mono ?_
  rintro e w4 ⟨rfl, hb4⟩
  go_wp2_with fail
  refine (holds_any 1 a a _).mono ?_
  rintro e w5 ⟨rfl, hb5⟩
  go_wp2_with fail
  refine (holds_any 2 a a _).mono ?_
  rintro e w6 ⟨rfl, hb6⟩
  go_wp2_with fail
  refine (holds_any 3 a a _).mono ?_
  rintro e w7 ⟨rfl, hb7⟩
  go_wp2_with fail
  refine (holds_any 4 a a _).mono ?_
  rintro e w8 ⟨rfl, hb8⟩
  go_wp2_with fail
  refine (valsBegun_any _).mono ?_
  rintro e w9 ⟨rfl, hb9⟩
  go_wp2
  go_ret
  refine ⟨rfl, ?_⟩
  repeat (first | exact Below.refl _ _ | refine grow_alloc ?_ _ | refine grow_drew ?_ | refine grow_trans ?_ (by assumption))

theorem valsTrue_walk (a b : Int) (hw : (Lit.int .i64 a).wf = true) (_w1 : (Lit.int .i64 b).wf = true) (w : World) :
    Calls Try.prog 5 #[.int .i64 a, .int .i64 b] w fun e w' => e = .returned (.bool true) ∧ Below w.heap.size w w' := by
  by_cases h : a < b
  · exact valsTrue_lt a b hw h w
  · by_cases h' : b < a
    · exact valsTrue_gt a b hw h' w
    · obtain rfl : a = b := by omega
      exact valsTrue_eq a hw w

set_option maxRecDepth 100000 in
theorem valsTrue_lifted (os : Os) (started : os.Started) (H : Type) (enc : TypeId × Value → H) :
    ReturnsInHanded {} Try.checked os 5 .any (Rows.valsTrueSpec.pre6 enc Try.prog Try.f5 Rows.valsTrueRow.domain false) (Rows.valsTrueSpec.post enc Try.prog Try.f5 false true false false) := by
  refine returnsInHanded_of_change (C := Try.checked) ownK started (by kernel_rfl) Try.func5
    (ChangeSpec.witness6 (enc := enc) (C := Try.checked) false ⟨#[], #[.int .i64 0, .int .i64 0], []⟩ 8 (by kernel_rfl) (by kernel_rfl) (by kernel_rfl) (by kernel_rfl)) ?_
  intro W base args ds gs before hval0 hW hcnd _
  have hval : ∀ (j : Nat) t v, Try.f5.params[j]? = some t → args[j]? = some v → Value.okWide Try.prog W .any base t v := hval0
  have hW' := hW
  obtain ⟨p, q, hA0, hV, rfl, hfz, hnd⟩ := hW
  have hA : DataW.TrodAll enc Try.prog W 0 (fun _ => true) true Try.f5.params.toList args.toList ds p := hA0
  rw [Try.params5] at hA hval
  obtain ⟨v0, vs0, d0, ds0, p0, q0, hargs, rfl, rfl, h0, r0⟩ := trodAll_cons hA
  obtain ⟨v1, vs1, d1, ds1, p1, q1, rfl, rfl, rfl, h1, r1⟩ := trodAll_cons r0
  obtain ⟨rfl, rfl, rfl⟩ := trodAll_nil r1
  obtain rfl : args = #[v0, v1] := by cases args; simp_all
  obtain ⟨rfl, rfl⟩ := trodVars_none hV
  obtain ⟨a0, rfl, rfl, rfl, w0⟩ := open_int Try.underlying3 (hval 0 3 v0 rfl rfl) h0
  obtain ⟨a1, rfl, rfl, rfl, w1⟩ := open_int Try.underlying3 (hval 1 3 v1 rfl rfl) h1
  clear hA0 hval0
  refine (valsTrue_walk a0 a1 w0 w1 W).mono fun e W' ⟨he, bel⟩ => ?_
  subst he
  exact ⟨_, rfl, _, _, _, [], _, [], hW', trodAll_mk1 (shut_bool Try.underlying4 _), (trodAll_cons_mk (shut_int Try.underlying3 w0) (trodAll_cons_mk (shut_int Try.underlying3 w1) trodAll_mk0)), rfl, bel.frame _, fun h => by cases h⟩

theorem valsTrue_over : Rows.valsTrueRow.holds Try.pinned (OpenSpec.ofChange Rows.valsTrueSpec) :=
  OpenClaim.holds_of_wide 5 Try.f5 rfl rfl rfl rfl rfl rfl rfl ⟨rfl, rfl, rfl, rfl, rfl⟩ rfl rfl rfl rfl rfl (by kernel_rfl) Try.func5 (by kernel_rfl)
    (of_decide_eq_true (by kernel_rfl)) (by unfold Func.isWrapper; first | (rw [if_pos (by decide +kernel)]; kernel_rfl) | (rw [if_neg (by decide +kernel)]; exact ⟨rfl, rfl⟩))
    (fun os started H enc _ => valsTrue_lifted os started H enc)

/-- The statement. -/
theorem valsTrue_holds : Rows.ValsTrueSaid := valsTrue_over
#print axioms valsTrue_holds
end Go.Proofs.Ytobhbllohafdhaa
