/-
  Audit: the document's.
  Conditions: those that each theorem states.
-/
import Derived.Test.YtcgpkonfneofdaaAudB
import Derived.Test.YtcgpkonfneofdaaStoreJ
import Derived.WalkKit
import Derived.WalkSpells
import Derived.WalkLawsBesides
import Derived.Defers
import Derived.Recover
import Derived.ProofKit
import Derived.Deep.RegionHeld
import Derived.Deep.RegionHeld3
import Derived.Deep.RegionLaw
import Derived.Deep.DeepCutAuto
import Derived.Deep.QuietTactic
import Derived.BigQuiet
import Derived.Maps.AppendAt
import Derived.Lib.SliceRun
import Derived.Deep.AppendLies
namespace Go.Proofs.Ytcgpkonfneofdaa
open Go.RowKit

theorem isRes_at {w : World} {b off : Nat} {va : Option Addr} {vc : Nat} {d : Bool} {xs : List Int} (hb : b < w.heap.size) (c0 : w.cell? ⟨b, off, none⟩ = some (.bool d)) (c1 : w.cell? ⟨b, off + 1, none⟩ = some (.slice va xs.length vc)) (hx : IsInts w va xs) : IsRes w (some ⟨b, off, none⟩) [(d, xs)] := fun i hi => by
  have h0 : i = 0 := by simpa using hi
  subst h0
  exact ⟨b, off, va, vc, rfl, hb, by simpa using c0, by simpa using c1, hx⟩
variable (sa la ea ra : Option Addr) (sc lc ec rc : Nat) (s : List Int) (l : List TxA) (en : List Int) (r : List (Bool × List Int))

set_option maxRecDepth 100000 in
set_option maxHeartbeats 2000000 in
theorem docAud_ser (w : World) (hs : IsInts w sa s) (hl : IsTxs w la l) (hE : ¬ serE s l = 0) :
    Calls Try.prog 9 #[.slice sa s.length sc, .slice la l.length lc, .slice ea en.length ec, .slice ra r.length rc] w fun e w' => e = .returned (.tuple #[.int .i64 0, .int .i64 (serE s l)]) ∧ Below w.heap.size w w' := by
  have CS : Hid (Calls Try.prog 35 #[.slice sa s.length sc, .slice la l.length lc] w fun e w' => ∃ wa wc xa xc, e = .returned (.tuple #[.slice wa (sEnd s l).length wc, .slice xa (sRes s l).length xc, .int .i64 (serE s l)]) ∧ IsInts w' wa (sEnd s l) ∧ IsRes w' xa (sRes s l) ∧ (sRes s l).length ≤ xc ∧ Below w.heap.size w w') := serialOf_any sa la sc lc s l w hs hl
  have hb : (serE s l != 0) = true := by simpa using hE
  clear hs hl
  generalize serE s l = E at *
  go_enter Try.func9, Try.ntmps9
  go_wp2_with fail
  refine CS.out.mono ?_
  rintro e w1 ⟨wa, wc, xa, xc, rfl, _, _, _, hb1⟩
  have B1 : Hid (Below w.heap.size w w1) := hb1
  clear hb1
  go_wp2
  go_ret2
  exact ⟨rfl, B1.out⟩

set_option maxRecDepth 100000 in
set_option maxHeartbeats 2000000 in
theorem docAud_form (w : World) (hs : IsInts w sa s) (hl : IsTxs w la l) (hE : serE s l = 0) (hF : ¬ (en.length = 8 ∧ r.length = l.length)) :
    Calls Try.prog 9 #[.slice sa s.length sc, .slice la l.length lc, .slice ea en.length ec, .slice ra r.length rc] w fun e w' => e = .returned (.tuple #[.int .i64 0, .int .i64 1]) ∧ Below w.heap.size w w' := by
  have CS : Hid (Calls Try.prog 35 #[.slice sa s.length sc, .slice la l.length lc] w fun e w' => ∃ wa wc xa xc, e = .returned (.tuple #[.slice wa (sEnd s l).length wc, .slice xa (sRes s l).length xc, .int .i64 (serE s l)]) ∧ IsInts w' wa (sEnd s l) ∧ IsRes w' xa (sRes s l) ∧ (sRes s l).length ≤ xc ∧ Below w.heap.size w w') := serialOf_any sa la sc lc s l w hs hl
  rw [hE] at CS
  clear hs hl hE
  by_cases h8 : en.length = 8
  · have h9 : ((r.length : Int) != (l.length : Int)) = true := by
      have : ¬ r.length = l.length := fun e => hF ⟨h8, e⟩
      simp
      omega
    have CI : Hid (∀ w', Calls Try.prog 36 #[.slice ea en.length ec] w' fun e w'' => e = .returned (.bool true) ∧ w'' = w') := fun w' => by
      have h := isStore_any en ea ec w'
      rw [decide_eq_true h8] at h
      exact h
    clear h8 hF
    go_enter Try.func9, Try.ntmps9
    go_wp2_with fail
    refine CS.out.mono ?_
    rintro e w1 ⟨wa, wc, xa, xc, rfl, _, _, _, hb1⟩
    have B1 : Hid (Below w.heap.size w w1) := hb1
    clear hb1
    go_wp2_with fail
    refine (CI.out _).mono ?_
    rintro e w2 ⟨rfl, hwe⟩
    subst hwe
    go_wp2
    go_ret2
    exact ⟨rfl, B1.out⟩
  · have CI : Hid (∀ w', Calls Try.prog 36 #[.slice ea en.length ec] w' fun e w'' => e = .returned (.bool false) ∧ w'' = w') := fun w' => by
      have h := isStore_any en ea ec w'
      rw [decide_eq_false h8] at h
      exact h
    clear h8 hF
    go_enter Try.func9, Try.ntmps9
    go_wp2_with fail
    refine CS.out.mono ?_
    rintro e w1 ⟨wa, wc, xa, xc, rfl, _, _, _, hb1⟩
    have B1 : Hid (Below w.heap.size w w1) := hb1
    clear hb1
    go_wp2_with fail
    refine (CI.out _).mono ?_
    rintro e w2 ⟨rfl, hwe⟩
    subst hwe
    go_wp2
    go_ret2
    exact ⟨rfl, B1.out⟩

set_option maxRecDepth 100000 in
set_option maxHeartbeats 1500000 in
theorem docAud_ok (w : World) (hs : IsInts w sa s) (hl : IsTxs w la l) (he : IsInts w ea en) (hr : IsRes w ra r) (hrc : r.length ≤ rc) (hE : audE s l en r = 0) :
    Calls Try.prog 9 #[.slice sa s.length sc, .slice la l.length lc, .slice ea en.length ec, .slice ra r.length rc] w fun e w' => e = .returned (.tuple #[.int .i64 (audN s l en r), .int .i64 0]) ∧ Below w.heap.size w w' := by
  obtain ⟨z1, z2, z3, z4, z5⟩ := audE_zero hE
  have hl8 : l.length ≤ 8 := chkL_len (serE_zero z1).2
  have hRl : (sRes s l).length = l.length := by rw [z4, serRes_len]
  have hEl : (sEnd s l).length = 8 := by rw [z5, serEnd_len]; exact (serE_zero z1).1
  have HF : Hid (∀ q ∈ sRes s l, q.2.length ≤ 100) := by
    show ∀ q ∈ sRes s l, q.2.length ≤ 100
    rw [z4]
    exact vals_few z1
  have CS : Hid (Calls Try.prog 35 #[.slice sa s.length sc, .slice la l.length lc] w fun e w' => ∃ wa wc xa xc, e = .returned (.tuple #[.slice wa (sEnd s l).length wc, .slice xa (sRes s l).length xc, .int .i64 (serE s l)]) ∧ IsInts w' wa (sEnd s l) ∧ IsRes w' xa (sRes s l) ∧ (sRes s l).length ≤ xc ∧ Below w.heap.size w w') := serialOf_any sa la sc lc s l w hs hl
  rw [z1] at CS
  have CI : Hid (∀ w', Calls Try.prog 36 #[.slice ea en.length ec] w' fun e w'' => e = .returned (.bool true) ∧ w'' = w') := fun w' => by
    have h := isStore_any en ea ec w'
    rw [decide_eq_true z2] at h
    exact h
  have hrl : ((r.length : Int) != (l.length : Int)) = false := by simp [z3]
  have HR : Hid (IsRes w ra r) := hr
  have HEN : Hid (IsInts w ea en) := he
  have HRL : Hid ((sRes s l).length = l.length) := hRl
  have HEL : Hid ((sEnd s l).length = 8) := hEl
  have HRN : Hid (r.length = l.length) := z3
  clear hs hl he hr hE z1 z2 z3 z4 z5 hRl hEl
  go_enter Try.func9, Try.ntmps9
  go_wp2_with fail
  refine CS.out.mono ?_
  rintro e w1 ⟨wa, wc, xa, xc, rfl, hw1, hx1, hxc, hb1⟩
  have HWA : Hid (IsInts w1 wa (sEnd s l)) := hw1
  have HXA : Hid (IsRes w1 xa (sRes s l)) := hx1
  have HXC : Hid ((sRes s l).length ≤ xc) := hxc
  have B1 : Hid (Below w.heap.size w w1) := hb1
  clear hb1 hw1 hx1 hxc CS
  go_wp2_with fail
  refine (CI.out _).mono ?_
  rintro e w2 ⟨rfl, hwe⟩
  subst hwe
  go_wp2
  go_loopw [13] (fun i wr => ∃ k : Nat, k ≤ l.length ∧ i = .int .i64 k ∧ Hid (∀ j, j < k → (sRes s l).getD j (false, []) = r.getD j (false, [])) ∧ Hid (Below w2.heap.size w2 wr)) (fun i _ => l.length - (intOf i).toNat)
  case atStart => exact ⟨0, Nat.zero_le _, rfl, fun j hj => absurd hj (Nat.not_lt_zero _), Below.refl _ _⟩
  case round =>
    obtain ⟨k, hk, rfl, hsm, hB⟩ := hrel
    by_cases hlt : k < l.length
    · have hk2 : k < (sRes s l).length := by have := HRL.out; omega
      have hk3 : k < r.length := by have := HRL.out; have := HRN.out; omega
      obtain ⟨b, off, va, vc, ea1, hbl, c0, c1, hx⟩ := HXA.out k hk2
      obtain ⟨b', off', va', vc', ea2, hbl', d0, d1, hy⟩ := HR.out k hk3
      subst ea1 ea2
      have hxl : ((sRes s l).getD k (false, [])).2.length ≤ maxLen := by
        have h := HF.out _ (show (sRes s l).getD k (false, []) ∈ sRes s l by simp [List.getD, hk2])
        unfold maxLen
        omega
      have c0 := ext_cell hB.out c0
      have c1 := ext_cell hB.out c1
      have d0 := ext_cell (grow_trans B1.out hB.out) d0
      have d1 := ext_cell (grow_trans B1.out hB.out) d1
      have hX0 := hx.below hB.out
      have hY0 := hy.below (grow_trans B1.out hB.out)
      obtain ⟨⟨d, xs⟩, hD⟩ : ∃ z, (sRes s l).getD k (false, []) = z := ⟨_, rfl⟩
      obtain ⟨⟨d', ys⟩, hD2⟩ : ∃ z, r.getD k (false, []) = z := ⟨_, rfl⟩
      rw [hD] at c0 c1 hxl hX0
      rw [hD2] at d0 d1 hY0
      simp only at c0 c1 d0 d1 hxl hX0 hY0
      have HD : Hid ((sRes s l).getD k (false, []) = (d, xs)) := hD
      have HD2 : Hid (r.getD k (false, []) = (d', ys)) := hD2
      have HX : Hid (b < wr.heap.size ∧ IsInts wr va xs) := ⟨Nat.lt_of_lt_of_le hbl hB.out.size, hX0⟩
      have HY : Hid (b' < wr.heap.size ∧ IsInts wr va' ys) := ⟨Nat.lt_of_lt_of_le hbl' (grow_trans B1.out hB.out).size, hY0⟩
      have i1 : (k : Int) < (l.length : Int) := by omega
      have hxc := HXC.out
      have j1 : (k : Int) + 1 ≤ (xc : Int) := by omega
      have j2 : (k : Int) + 1 ≤ (rc : Int) := by omega
      have j3 : IntKind.i64.wrap ((k : Int) + 1) = (k : Int) + 1 := IntWalk.i64_in _ (by omega)
      have j4 : ((k : Int) + 1).toNat = k + 1 := by omega
      have j5 : ¬ xc = k := by omega
      have j6 : ¬ rc = k := by omega
      have j7 : k + 1 - k = 1 := by omega
      have j8 : (0 : Int) ≤ (k : Int) + 1 := by omega
      obtain ⟨q0, HQ0⟩ : ∃ q0 : Bool, Hid (decide (((d, xs) : Bool × List Int) = (d', ys)) = q0) := ⟨_, rfl⟩
      have CX : Hid (∀ c1 c2 w', Below wr.heap.size wr w' → Calls Try.prog 37 #[.slice (some ⟨b, off + k * 2, none⟩) 1 c1, .slice (some ⟨b', off' + k * 2, none⟩) 1 c2] w' fun e w'' => e = .returned (.bool q0) ∧ Below w'.heap.size w' w'') := fun c1' c2' w' hb => by
        have h := sameRes_one d d' xs ys _ _ c1' c2' w' hxl (isRes_at (Nat.lt_of_lt_of_le HX.out.1 hb.size) (ext_cell hb c0) (ext_cell hb c1) (HX.out.2.below hb)) (isRes_at (Nat.lt_of_lt_of_le HY.out.1 hb.size) (ext_cell hb d0) (ext_cell hb d1) (HY.out.2.below hb))
        rw [HQ0.out] at h
        exact h
      clear hx hy hD hD2 hX0 hY0 hbl hbl' hxc
      go_upto_region 9 with fail
      refine wp_region_held_drew (S := (fun _ => True)) (by kernel_rfl) ?_ (fun hHeld => ?_)
      · exact trivial
      refine wpAnyH_take (i := 0) (oi := { dst := some 40, op := .move (.tmp 11), type := 24, pos := "steps.go:255", after := #[], guard := none }) (v := ?_) rfl (by kernel_rfl) (by kernel_rfl) (by kernel_rfl) (fun _ _ _ h => h) (Or.inl ⟨by rfl, ?_⟩) (by assumption) ?_
      rotate_left
      · intro w hSw
        go_simp
        first | done | with_reducible rfl
      try simp only [Act.put, List.setIfInBounds_toArray, List.set_cons_zero, List.set_cons_succ]
      refine wpAnyH_take (i := 1) (oi := { dst := some 41, op := .move (.tmp 13), type := 3, pos := "steps.go:255", after := #[], guard := none }) (v := ?_) rfl (by kernel_rfl) (by kernel_rfl) (by kernel_rfl) (fun _ _ _ h => h) (Or.inl ⟨by rfl, ?_⟩) (by assumption) ?_
      rotate_left
      · intro w hSw
        go_simp
        first | done | with_reducible rfl
      try simp only [Act.put, List.setIfInBounds_toArray, List.set_cons_zero, List.set_cons_succ]
      refine wpAnyH_take (i := 2) (oi := { dst := some 42, op := .move (.tmp 13), type := 3, pos := "steps.go:255", after := #[], guard := none }) (v := ?_) rfl (by kernel_rfl) (by kernel_rfl) (by kernel_rfl) (fun _ _ _ h => h) (Or.inl ⟨by rfl, ?_⟩) (by assumption) ?_
      rotate_left
      · intro w hSw
        go_simp
        first | done | with_reducible rfl
      try simp only [Act.put, List.setIfInBounds_toArray, List.set_cons_zero, List.set_cons_succ]
      refine wpAnyH_take (i := 3) (oi := { dst := some 43, op := .binOp .add 3 (.tmp 42) (.const (.int .i64 1)) 3, type := 3, pos := "steps.go:255", after := #[{ on := 2, ground := .data }], guard := none }) (v := ?_) rfl (by kernel_rfl) (by kernel_rfl) (by kernel_rfl) (fun _ _ _ h => h) (Or.inl ⟨by rfl, ?_⟩) (by assumption) ?_
      rotate_left
      · intro w hSw
        go_simp
        first | done | with_reducible rfl
      try simp only [Act.put, List.setIfInBounds_toArray, List.set_cons_zero, List.set_cons_succ]
      refine wpAnyH_take (i := 4) (oi := { dst := some 44, op := .slice 24 (.tmp 40) (some (.tmp 41)) (some (.tmp 43)) none, type := 24, pos := "steps.go:255", after := #[{ on := 0, ground := .data }, { on := 1, ground := .data }, { on := 3, ground := .data }], guard := none }) (v := ?_) rfl (by kernel_rfl) (by kernel_rfl) (by kernel_rfl) (fun _ _ _ h => h) (Or.inl ⟨by rfl, ?_⟩) (by assumption) ?_
      rotate_left
      · intro w hSw
        go_simp
        first | done | with_reducible rfl
      try simp only [Act.put, List.setIfInBounds_toArray, List.set_cons_zero, List.set_cons_succ]
      refine wpAnyH_take (i := 5) (oi := { dst := some 45, op := .move (.tmp 3), type := 24, pos := "steps.go:255", after := #[], guard := none }) (v := ?_) rfl (by kernel_rfl) (by kernel_rfl) (by kernel_rfl) (fun _ _ _ h => h) (Or.inl ⟨by rfl, ?_⟩) (by assumption) ?_
      rotate_left
      · intro w hSw
        go_simp
        first | done | with_reducible rfl
      try simp only [Act.put, List.setIfInBounds_toArray, List.set_cons_zero, List.set_cons_succ]
      refine wpAnyH_take (i := 6) (oi := { dst := some 46, op := .move (.tmp 13), type := 3, pos := "steps.go:255", after := #[], guard := none }) (v := ?_) rfl (by kernel_rfl) (by kernel_rfl) (by kernel_rfl) (fun _ _ _ h => h) (Or.inl ⟨by rfl, ?_⟩) (by assumption) ?_
      rotate_left
      · intro w hSw
        go_simp
        first | done | with_reducible rfl
      try simp only [Act.put, List.setIfInBounds_toArray, List.set_cons_zero, List.set_cons_succ]
      refine wpAnyH_take (i := 7) (oi := { dst := some 47, op := .move (.tmp 13), type := 3, pos := "steps.go:255", after := #[], guard := none }) (v := ?_) rfl (by kernel_rfl) (by kernel_rfl) (by kernel_rfl) (fun _ _ _ h => h) (Or.inl ⟨by rfl, ?_⟩) (by assumption) ?_
      rotate_left
      · intro w hSw
        go_simp
        first | done | with_reducible rfl
      try simp only [Act.put, List.setIfInBounds_toArray, List.set_cons_zero, List.set_cons_succ]
      refine wpAnyH_take (i := 8) (oi := { dst := some 48, op := .binOp .add 3 (.tmp 47) (.const (.int .i64 1)) 3, type := 3, pos := "steps.go:255", after := #[{ on := 7, ground := .data }], guard := none }) (v := ?_) rfl (by kernel_rfl) (by kernel_rfl) (by kernel_rfl) (fun _ _ _ h => h) (Or.inl ⟨by rfl, ?_⟩) (by assumption) ?_
      rotate_left
      · intro w hSw
        go_simp
        first | done | with_reducible rfl
      try simp only [Act.put, List.setIfInBounds_toArray, List.set_cons_zero, List.set_cons_succ]
      refine wpAnyH_take (i := 9) (oi := { dst := some 49, op := .slice 24 (.tmp 45) (some (.tmp 46)) (some (.tmp 48)) none, type := 24, pos := "steps.go:255", after := #[{ on := 5, ground := .data }, { on := 6, ground := .data }, { on := 8, ground := .data }], guard := none }) (v := ?_) rfl (by kernel_rfl) (by kernel_rfl) (by kernel_rfl) (fun _ _ _ h => h) (Or.inl ⟨by rfl, ?_⟩) (by assumption) ?_
      rotate_left
      · intro w hSw
        go_simp
        first | done | with_reducible rfl
      try simp only [Act.put, List.setIfInBounds_toArray, List.set_cons_zero, List.set_cons_succ]
      refine wpAnyH_ready (rs := [10]) (by kernel_rfl) (by simp) ?_
      refine AllReadyH.cons (o := { dst := some 50, op := .call { callee := .value (.func 37), args := #[.tmp 44, .tmp 49], argTypes := #[24, 24] }, type := 4, pos := "steps.go:255", after := #[{ on := 4, ground := .data }, { on := 9, ground := .data }], guard := none }) rfl (fun K hK => ?_) (AllReadyH.nil)
      go_simp
      go_wp2_with (go_at_call 37; refine (CX.out _ _ _ (grow_drew (Below.refl _ _))).mono ?_; rintro e w4 ⟨rfl, hb4⟩)
      have B4 : Hid (Below wr.heap.size wr w4) := grow_trans (grow_drew (Below.refl _ _)) hb4
      clear hHeld
      refine hK.out _ _ (trivial) (fun hHeld => ?_)
      clear hK K
      refine wpAnyH_take (i := 11) (oi := { dst := some 51, op := .unOp .not 4 (.tmp 50), type := 4, pos := "steps.go:255", after := #[{ on := 10, ground := .data }], guard := none }) (v := ?_) rfl (by kernel_rfl) (by kernel_rfl) (by kernel_rfl) (fun _ _ _ h => h) (Or.inl ⟨by rfl, ?_⟩) (by assumption) ?_
      rotate_left
      · intro w hSw
        go_simp
        first | done | with_reducible rfl
      try simp only [Act.put, List.setIfInBounds_toArray, List.set_cons_zero, List.set_cons_succ]
      refine wpAnyH_done (by kernel_rfl) ?_ _
      clear hHeld
      by_cases hxy : ((d, xs) : Bool × List Int) = (d', ys)
      · have H1 : Hid (∀ j, j < k + 1 → (sRes s l).getD j (false, []) = r.getD j (false, [])) := fun j hj => by
          by_cases e : j = k
          · rw [e, HD.out, HD2.out]; exact hxy
          · exact hsm.out j (by omega)
        have e0 : q0 = true := by rw [← HQ0.out]; exact decide_eq_true hxy
        subst e0
        clear hxy c0 c1 d0 d1
        go_wp2
        go_roundw
        case rel => exact ⟨k + 1, by omega, by go_num, H1, grow_trans hB.out B4.out⟩
        case measure => simp [intOf]; omega
      · have H1 : Hid (audN s l en r = (k : Nat)) := by
          obtain ⟨f1, f2⟩ := fD_at (sRes s l) r k hk2 hk3 hsm.out (by rw [HD.out, HD2.out]; exact hxy)
          show _ = _
          unfold audN
          rw [if_neg f2, f1]
        have e0 : q0 = false := by rw [← HQ0.out]; exact decide_eq_false hxy
        subst e0
        clear hxy c0 c1 d0 d1
        go_wp2
        go_ret2
        exact ⟨by rw [H1.out]; rfl, grow_trans B1.out (grow_trans hB.out B4.out)⟩
    · have hkk : k = l.length := by omega
      have hAll : Hid (sRes s l = r) := eq_of_getD _ _ (by rw [HRL.out, HRN.out]) (fun j hj => hsm.out j (by have := HRL.out; omega))
      have i1 : ¬ (k : Int) < (l.length : Int) := by omega
      have hEm : (sEnd s l).length ≤ maxLen := by rw [HEL.out]; unfold maxLen; omega
      clear hkk hlt hsm
      go_wp2_with fail
      refine (sameInts_any (sEnd s l) en wa ea wc ec _ hEm (HWA.out.below hB.out) (HEN.out.below (grow_trans B1.out hB.out))).mono ?_
      rintro e w5 ⟨rfl, hb5⟩
      have B5 : Hid (Below w.heap.size w w5) := grow_trans B1.out (grow_trans hB.out hb5)
      by_cases hq : sEnd s l = en
      · have H1 : Hid (audN s l en r = -1) := by show _ = _; unfold audN; rw [if_pos hAll.out, if_pos hq]
        rw [decide_eq_true hq]
        clear hq hb5
        go_wp2
        go_ret2
        exact ⟨by rw [H1.out]; rfl, B5.out⟩
      · have H1 : Hid (audN s l en r = (l.length : Nat)) := by show _ = _; unfold audN; rw [if_pos hAll.out, if_neg hq]
        rw [decide_eq_false hq]
        clear hq hb5
        go_wp2
        go_ret2
        exact ⟨by rw [H1.out]; rfl, B5.out⟩

theorem docAud_any (w : World) (hs : IsInts w sa s) (hl : IsTxs w la l) (he : IsInts w ea en) (hr : IsRes w ra r) (hrc : r.length ≤ rc) :
    Calls Try.prog 9 #[.slice sa s.length sc, .slice la l.length lc, .slice ea en.length ec, .slice ra r.length rc] w fun e w' => e = .returned (.tuple #[.int .i64 (audV s l en r), .int .i64 (audE s l en r)]) ∧ Below w.heap.size w w' := by
  by_cases hE : audE s l en r = 0
  · have e1 : audV s l en r = audN s l en r := if_pos hE
    rw [e1, hE]
    exact docAud_ok sa la ea ra sc lc ec rc s l en r w hs hl he hr hrc hE
  · have e1 : audV s l en r = 0 := if_neg hE
    rw [e1]
    by_cases h1 : serE s l = 0
    · have eR : sRes s l = serRes s l := if_pos h1
      have hF : ¬ (en.length = 8 ∧ r.length = l.length) := fun h => hE (by
        unfold audE lenE cntE
        rw [h1, if_pos h.1, if_pos (by rw [h.2, eR, serRes_len])]
        rfl)
      have e2 : audE s l en r = 1 := by
        unfold audE lenE cntE
        rw [h1]
        by_cases c : en.length = 8
        · rw [if_pos c, if_neg (by rw [eR, serRes_len]; exact fun e => hF ⟨c, e⟩)]
          rfl
        · rw [if_neg c]
          rfl
      rw [e2]
      exact docAud_form sa la ea ra sc lc ec rc s l en r w hs hl h1 hF
    · have e2 : audE s l en r = serE s l := by unfold audE; simp [firstNZ, h1]
      rw [e2]
      exact docAud_ser sa la ea ra sc lc ec rc s l en r w hs hl h1
end Go.Proofs.Ytcgpkonfneofdaa
