/-
  
  Conditions: those that each theorem states.
-/
import Derived.Test.YtcgpkonfneofdaaGreatSSerV
import Derived.Test.YtcgpkonfneofdaaGreatSFaultA
set_option maxRecDepth 100000
namespace Go.Proofs.YtcgpkonfneofdaaGreat
open Go.RowKit
theorem vals_few {s : List Int} {l : List TxA} (hE : serE s l = 0) : ∀ r ∈ serRes s l, r.2.length ≤ 100 := by
 have h := sRes_vals s l
 have e : sRes s l = serRes s l := if_pos hE
 rw [e] at h
 exact h
end Go.Proofs.YtcgpkonfneofdaaGreat
namespace Go.Proofs.YtcgpkonfneofdaaGreat
open Go.RowKit
def fD : List (Bool × List Int) → List (Bool × List Int) → Nat
 | x :: t, y :: u => if x = y then fD t u + 1 else 0
 | [], _ => 0
 | _ :: _, [] => 0
theorem fD_at : ∀ (a b : List (Bool × List Int)) (k : Nat), k < a.length → k < b.length → (∀ j, j < k → a.getD j (false, []) = b.getD j (false, [])) → ¬ a.getD k (false, []) = b.getD k (false, []) → fD a b = k ∧ ¬ a = b
 | [], _, k, h, _, _, _ => absurd h (Nat.not_lt_zero _)
 | _ :: _, [], k, _, h, _, _ => absurd h (Nat.not_lt_zero _)
 | x :: t, y :: u, 0, _, _, _, hn => by
  have hn' : ¬ x = y := hn
  exact ⟨if_neg hn', fun e => hn' (by injection e)⟩
 | x :: t, y :: u, k + 1, h1, h2, hs, hn => by
  have hxy : x = y := hs 0 (Nat.succ_pos _)
  obtain ⟨f1, f2⟩ := fD_at t u k (by simpa using h1) (by simpa using h2) (fun j hj => hs (j + 1) (by omega)) hn
  refine ⟨?_, fun e => f2 (by injection e)⟩
  show (if x = y then fD t u + 1 else 0) = k + 1
  rw [if_pos hxy, f1]
theorem eq_of_getD : ∀ (a b : List (Bool × List Int)), a.length = b.length → (∀ j, j < a.length → a.getD j (false, []) = b.getD j (false, [])) → a = b
 | [], [], _, _ => rfl
 | [], _ :: _, h, _ => by simp at h
 | _ :: _, [], h, _ => by simp at h
 | x :: t, y :: u, h, hs => by
  have hxy : x = y := hs 0 (by simp)
  rw [hxy, eq_of_getD t u (by simpa using h) (fun j hj => hs (j + 1) (by simpa using hj))]
def audE (s : List Int) (l : List TxA) (en : List Int) (r : List (Bool × List Int)) : Int := firstNZ [serE s l, lenE en, cntE (sRes s l).length r.length]
def audN (s : List Int) (l : List TxA) (en : List Int) (r : List (Bool × List Int)) : Int := if sRes s l = r then (if sEnd s l = en then -1 else (l.length : Nat)) else (fD (sRes s l) r : Nat)
def audV (s : List Int) (l : List TxA) (en : List Int) (r : List (Bool × List Int)) : Int := if audE s l en r = 0 then audN s l en r else 0
theorem audE_zero {s : List Int} {l : List TxA} {en : List Int} {r : List (Bool × List Int)} (h : audE s l en r = 0) : serE s l = 0 ∧ en.length = 8 ∧ r.length = l.length ∧ sRes s l = serRes s l ∧ sEnd s l = serEnd s l := by
 have h0 : serE s l = 0 := firstNZ_zero _ h 0
 have h1 : lenE en = 0 := firstNZ_zero _ h 1
 have h2 : cntE (sRes s l).length r.length = 0 := firstNZ_zero _ h 2
 have e1 : sRes s l = serRes s l := if_pos h0
 have e2 : sEnd s l = serEnd s l := if_pos h0
 refine ⟨h0, ?_, ?_, e1, e2⟩
 ·unfold lenE at h1
  by_cases c : en.length = 8
  ·exact c
  ·rw [if_neg c] at h1; omega
 ·by_cases c : r.length = (sRes s l).length
  ·rw [c, e1, serRes_len]
  ·have h3 : cntE (sRes s l).length r.length = 1 := if_neg c
   omega
variable (sa la ea ra : Option Addr) (sc lc ec rc : Nat) (s : List Int) (l : List TxA) (en : List Int) (r : List (Bool × List Int))
set_option maxHeartbeats 4000000 in
theorem aud1_pan (p0 p1 p2 p3 : Nat) (w : World) (h0 : w.cell? ⟨p0, 0, none⟩ = some (.slice sa s.length sc)) (h1 : w.cell? ⟨p1, 0, none⟩ = some (.slice la l.length lc)) (h2 : w.cell? ⟨p2, 0, none⟩ = some (.slice ea en.length ec)) (h3 : w.cell? ⟨p3, 0, none⟩ = some (.slice ra r.length rc)) (hs : IsInts w sa s) (hl : IsTxs w la l) (hE : ¬ audE s l en r = 0) :
  Calls Tryz.prog 29 #[.pointer (some ⟨p0, 0, none⟩), .pointer (some ⟨p1, 0, none⟩), .pointer (some ⟨p2, 0, none⟩), .pointer (some ⟨p3, 0, none⟩)] w fun e w' => e = .panicked [{ v := .iface 30 (.int .i64 (audE s l en r)), recovered := false }] ∧ Below w.heap.size w w' := by
 have HE : Hid (¬ firstNZ [serE s l, lenE en, cntE (sRes s l).length r.length] = 0) := hE
 have HV : Hid (audE s l en r = firstNZ [serE s l, lenE en, cntE (sRes s l).length r.length]) := rfl
 have CS : Hid (Calls Tryz.prog 24 #[.slice sa s.length sc, .slice la l.length lc] w fun e w' => ∃ ea ec xa xc, e = .returned (.tuple #[.slice ea (sEnd s l).length ec, .slice xa (sRes s l).length xc, .int .i64 (serE s l)]) ∧ Below w.heap.size w w') := (serial_any sa la sc lc s l w hs hl).mono (by rintro e w' ⟨ea, ec, xa, xc, rfl, _, hb⟩; exact ⟨ea, ec, xa, xc, rfl, hb⟩)
 clear hs hl hE
 go_enter Tryz.func29, Tryz.ntmps29
 go_wp2_with fail
 refine CS.out.mono ?_
 rintro e w1 ⟨wa, wc, xa, xc, rfl, hb1⟩
 have B1 : Hid (Below w.heap.size w w1) := hb1
 have y2 := ext_cell hb1 h2
 have y3 := ext_cell hb1 h3
 clear h0 h1 h2 h3 hb1 CS
 go_upto_region 2 with fail
 go_region_held (fun w' => Below w1.heap.size w1 w' ∧ w'.cell? ⟨p2, 0, none⟩ = some (.slice ea en.length ec) ∧ w'.cell? ⟨p3, 0, none⟩ = some (.slice ra r.length rc)) ((go_split_ands; refine ext2 ?_ y2 y3; repeat (first | assumption | exact Below.refl _ _ | refine grow_drew ?_ | refine grow_alloc ?_ _ | refine grow_trans ?_ (by assumption))))
  (first
   | (go_at_call 30; refine (storeCheck_e en ea ec _).mono ?_; rintro e w' ⟨rfl, rfl⟩)
   | (go_at_call 31; refine (audCount_any _ _ _ _ _ _ _).mono ?_; rintro e w' ⟨rfl, rfl⟩)
   | (go_at_call 13; refine (panic_or (leave_nz [serE s l, lenE en, cntE (sRes s l).length r.length] _ 3 _ (by simp) HE.out ?_) (.tuple #[])).mono ?_; (exact errs3 _ _ _ _ _ (by simp)); rintro e w' (⟨rfl, rfl⟩ | ⟨hF, rfl, rfl⟩); (refine ⟨rfl, by rw [HV.out], grow_trans B1.out ?_⟩; go_split_ands; repeat (first | assumption | exact Below.refl _ _ | refine grow_drew ?_ | refine grow_alloc ?_ _ | refine grow_trans ?_ (by assumption)))))
 all_goals exact (‹Hid False› : Hid False).out.elim
set_option maxHeartbeats 8000000 in
theorem aud1_ok (p0 p1 p2 p3 : Nat) (w : World) (h0 : w.cell? ⟨p0, 0, none⟩ = some (.slice sa s.length sc)) (h1 : w.cell? ⟨p1, 0, none⟩ = some (.slice la l.length lc)) (h2 : w.cell? ⟨p2, 0, none⟩ = some (.slice ea en.length ec)) (h3 : w.cell? ⟨p3, 0, none⟩ = some (.slice ra r.length rc)) (hs : IsInts w sa s) (hl : IsTxs w la l) (he : IsInts w ea en) (hr : IsRes w ra r) (hE : audE s l en r = 0) :
  Calls Tryz.prog 29 #[.pointer (some ⟨p0, 0, none⟩), .pointer (some ⟨p1, 0, none⟩), .pointer (some ⟨p2, 0, none⟩), .pointer (some ⟨p3, 0, none⟩)] w fun e w' => e = .returned (.int .i64 (audN s l en r)) ∧ Below w.heap.size w w' := by
 have HE : Hid (firstNZ [serE s l, lenE en, cntE (sRes s l).length r.length] = 0) := hE
 obtain ⟨z1, z2, z3, z4, z5⟩ := audE_zero hE
 have hl8 : l.length ≤ 8 := chkL_len (serE_zero z1).2
 have hRl : (sRes s l).length = l.length := by rw [z4, serRes_len]
 have hEl : (sEnd s l).length = 8 := by rw [z5, serEnd_len]; exact (serE_zero z1).1
 have HF : Hid (∀ q ∈ sRes s l, q.2.length ≤ 100) := by
  show ∀ q ∈ sRes s l, q.2.length ≤ 100
  rw [z4]
  exact vals_few z1
 have CS : Hid (Calls Tryz.prog 24 #[.slice sa s.length sc, .slice la l.length lc] w fun e w' => ∃ ea ec xa xc, e = .returned (.tuple #[.slice ea (sEnd s l).length ec, .slice xa (sRes s l).length xc, .int .i64 (serE s l)]) ∧ IsInts w' ea (sEnd s l) ∧ IsRes w' xa (sRes s l) ∧ Below w.heap.size w w') := (serial_any sa la sc lc s l w hs hl).mono (by rintro e w' ⟨ea, ec, xa, xc, rfl, h, hb⟩; exact ⟨ea, ec, xa, xc, rfl, h.ints, h.res, hb⟩)
 have HR : Hid (IsRes w ra r) := hr
 have HEN : Hid (IsInts w ea en) := he
 have HRL : Hid ((sRes s l).length = l.length) := hRl
 have HEL : Hid ((sEnd s l).length = 8) := hEl
 have HRN : Hid (r.length = l.length) := z3
 clear hs hl he hr hE z1 z2 z3 z4 z5 hRl hEl
 go_enter Tryz.func29, Tryz.ntmps29
 go_wp2_with fail
 refine CS.out.mono ?_
 rintro e w1 ⟨wa, wc, xa, xc, rfl, hw1, hx1, hb1⟩
 have B1 : Hid (Below w.heap.size w w1) := hb1
 have HWA : Hid (IsInts w1 wa (sEnd s l)) := hw1
 have HXA : Hid (IsRes w1 xa (sRes s l)) := hx1
 have y1 := ext_cell hb1 h1
 have y2 := ext_cell hb1 h2
 have y3 := ext_cell hb1 h3
 clear h0 h1 h2 h3 hb1 CS hw1 hx1
 go_upto_region 2 with fail
 have KS : Hid (∀ w', Below w1.heap.size w1 w' → w'.cell? ⟨p2, 0, none⟩ = some (.slice ea en.length ec) ∧ w'.cell? ⟨p3, 0, none⟩ = some (.slice ra r.length rc)) := fun w' hb => ⟨ext_cell hb y2, ext_cell hb y3⟩
 clear y2 y3
 refine wp_region_held_drew (S := (fun w' => w'.cell? ⟨p2, 0, none⟩ = some (.slice ea en.length ec) ∧ w'.cell? ⟨p3, 0, none⟩ = some (.slice ra r.length rc))) (by kernel_rfl) ?_ (fun hHeld => ?_)
 ·exact KS.out _ (grow_drew (Below.refl _ _))
 refine tk (i := 0) (oi := { dst := some 16, op := .move (.tmp 7), type := 30, pos := "audit.go:19", after := #[], guard := none }) (v := ?_) rfl (by kernel_rfl) (by kernel_rfl) (by kernel_rfl) (fun _ _ _ h => h) (by rfl) (by assumption) ?_ ?_; rotate_left; focus (intro w hSw; go_simp; first | done | with_reducible rfl)
 try simp only [Act.put, List.setIfInBounds_toArray, List.set_cons_zero, List.set_cons_succ]
 refine tk (i := 1) (oi := { dst := some 17, op := .load 25 (.tmp 2), type := 25, pos := "audit.go:19", after := #[], guard := none }) (v := ?_) rfl (by kernel_rfl) (by kernel_rfl) (by kernel_rfl) (fun _ _ _ h => h) (by rfl) (by assumption) ?_ ?_; rotate_left; focus (intro w hSw; go_simp; first | done | with_reducible rfl)
 try simp only [Act.put, List.setIfInBounds_toArray, List.set_cons_zero, List.set_cons_succ]
 refine tk (i := 3) (oi := { dst := some 19, op := .move (.tmp 6), type := 33, pos := "audit.go:19", after := #[], guard := none }) (v := ?_) rfl (by kernel_rfl) (by kernel_rfl) (by kernel_rfl) (fun _ _ _ h => h) (by rfl) (by assumption) ?_ ?_; rotate_left; focus (intro w hSw; go_simp; first | done | with_reducible rfl)
 try simp only [Act.put, List.setIfInBounds_toArray, List.set_cons_zero, List.set_cons_succ]
 refine tk (i := 4) (oi := { dst := some 20, op := .load 33 (.tmp 3), type := 33, pos := "audit.go:19", after := #[], guard := none }) (v := ?_) rfl (by kernel_rfl) (by kernel_rfl) (by kernel_rfl) (fun _ _ _ h => h) (by rfl) (by assumption) ?_ ?_; rotate_left; focus (intro w hSw; go_simp; first | done | with_reducible rfl)
 try simp only [Act.put, List.setIfInBounds_toArray, List.set_cons_zero, List.set_cons_succ]
 refine wpAnyH_ready (rs := [2]) (by kernel_rfl) (by simp) ?_
 refine AllReadyH.cons (o := { dst := some 18, op := .call { callee := .value (.func 30), args := #[.tmp 17], argTypes := #[25] }, type := 30, pos := "audit.go:19", after := #[{ on := 1, ground := .data }], guard := none }) rfl (fun K hK => ?_) (AllReadyH.nil)
 go_simp
 go_wp2_with (go_at_call 30; refine (storeCheck_e en ea ec _).mono ?_; rintro e w' ⟨rfl, hwe⟩; subst hwe)
 clear hHeld
 refine hK.out _ _ (KS.out _ (grow_drew (Below.refl _ _))) (fun hHeld => ?_)
 clear hK K
 refine wpAnyH_ready (rs := [5]) (by kernel_rfl) (by simp) ?_
 refine AllReadyH.cons (o := { dst := some 21, op := .call { callee := .value (.func 31), args := #[.tmp 19, .tmp 20], argTypes := #[33, 33] }, type := 30, pos := "audit.go:19", after := #[{ on := 3, ground := .data }, { on := 4, ground := .data }, { on := 2, ground := .chain }], guard := none }) rfl (fun K hK => ?_) (AllReadyH.nil)
 go_simp
 go_wp2_with (go_at_call 31; refine (audCount_any _ _ _ _ _ _ _).mono ?_; rintro e w' ⟨rfl, hwe⟩; subst hwe)
 clear hHeld
 refine hK.out _ _ (KS.out _ (grow_drew (Below.refl _ _))) (fun hHeld => ?_)
 clear hK K
 refine wpAnyH_ready (rs := [6]) (by kernel_rfl) (by simp) ?_
 refine AllReadyH.cons (o := { dst := some 22, op := .buildSlice 82 3 #[(0, .tmp 16), (1, .tmp 18), (2, .tmp 21)], type := 82, pos := "audit.go:19", after := #[{ on := 0, ground := .data }, { on := 2, ground := .data }, { on := 5, ground := .data }], guard := none }) rfl (fun K hK => ?_) (AllReadyH.nil)
 go_simp
 skip
 clear hHeld
 refine hK.out _ _ (KS.out _ (grow_drew (grow_alloc (Below.refl _ _) _))) (fun hHeld => ?_)
 clear hK K
 refine wpAnyH_ready (rs := [7]) (by kernel_rfl) (by simp) ?_
 refine AllReadyH.cons (o := { dst := some 23, op := .call { callee := .value (.func 13), args := #[.tmp 22], argTypes := #[82] }, type := 0, pos := "audit.go:19", after := #[{ on := 6, ground := .data }, { on := 5, ground := .chain }], guard := none }) rfl (fun K hK => ?_) (AllReadyH.nil)
 go_simp
 go_wp2_with (go_at_call 13; refine (leave_zero [serE s l, lenE en, cntE (sRes s l).length r.length] _ 3 _ (by simp) HE.out (fun k hk => ext_cell (grow_drew (Below.refl _ _)) (errs3 w1 _ _ _ _ rfl k hk))).mono ?_; rintro e w3 ⟨rfl, hwe⟩; subst hwe)
 clear hHeld
 refine hK.out _ _ (KS.out _ (grow_drew (grow_alloc (Below.refl _ _) _))) (fun hHeld => ?_)
 clear hK K
 refine wpAnyH_done (by kernel_rfl) ?_ _
 obtain ⟨y2, y3⟩ := KS.out (w1.alloc (.cells #[.int .i64 (serE s l), .int .i64 (lenE en), .int .i64 (cntE (sRes s l).length r.length)] 30)).drew (grow_drew (grow_alloc (Below.refl _ _) _))
 have BV : Hid (Below w1.heap.size w1 (w1.alloc (.cells #[.int .i64 (serE s l), .int .i64 (lenE en), .int .i64 (cntE (sRes s l).length r.length)] 30)).drew) := (grow_drew (grow_alloc (Below.refl _ _) _))
 have y1 := ext_cell BV.out y1
 clear hHeld KS
 generalize (w1.alloc (.cells #[.int .i64 (serE s l), .int .i64 (lenE en), .int .i64 (cntE (sRes s l).length r.length)] 30)).drew = V at *
 have KV : Hid (∀ w', Below V.heap.size V w' → w'.cell? ⟨p1, 0, none⟩ = some (.slice la l.length lc) ∧ w'.cell? ⟨p2, 0, none⟩ = some (.slice ea en.length ec) ∧ w'.cell? ⟨p3, 0, none⟩ = some (.slice ra r.length rc)) := fun w' hb => ⟨ext_cell hb y1, ext_cell hb y2, ext_cell hb y3⟩
 have B1 : Hid (Below w.heap.size w V) := grow_trans B1.out BV.out
 have HWA : Hid (IsInts V wa (sEnd s l)) := HWA.out.below BV.out
 have HXA : Hid (IsRes V xa (sRes s l)) := HXA.out.below BV.out
 clear y1 y2 y3 BV
 go_wp2
 go_loopw [26] (fun i wr => ∃ k : Nat, k ≤ (sRes s l).length ∧ i = .int .i64 k ∧ Hid (∀ j, j < k → (sRes s l).getD j (false, []) = r.getD j (false, [])) ∧ Hid (Below V.heap.size V wr)) (fun i _ => (sRes s l).length - (intOf i).toNat)
 case atStart => exact ⟨0, Nat.zero_le _, rfl, fun j hj => absurd hj (Nat.not_lt_zero _), Below.refl _ _⟩
 case round =>
  obtain ⟨k, hk, rfl, hsm, hB⟩ := hrel
  obtain ⟨y1, y2, y3⟩ := KV.out wr hB.out
  have hk8 : k ≤ 8 := by have := HRL.out; omega
  by_cases hk2 : k < (sRes s l).length
  ·have hk3 : k < r.length := by have := HRL.out; have := HRN.out; omega
   obtain ⟨b, off, va, vc, ea1, _, c0, c1, hx⟩ := HXA.out k hk2
   obtain ⟨b', off', va', vc', ea2, _, d0, d1, hy⟩ := HR.out k hk3
   subst ea1 ea2
   have hxl : ((sRes s l).getD k (false, [])).2.length ≤ maxLen := by
    have h := HF.out _ (show (sRes s l).getD k (false, []) ∈ sRes s l by simp [List.getD, hk2])
    unfold maxLen
    omega
   have c0 := ext_cell hB.out c0
   have c1 := ext_cell hB.out c1
   have d0 := ext_cell (grow_trans B1.out hB.out) d0
   have d1 := ext_cell (grow_trans B1.out hB.out) d1
   have hX0 := hx.below hB.out
   have hY0 := hy.below (grow_trans B1.out hB.out)
   obtain ⟨⟨d, xs⟩, hD⟩ : ∃ z, (sRes s l).getD k (false, []) = z := ⟨_, rfl⟩
   obtain ⟨⟨d', ys⟩, hD2⟩ : ∃ z, r.getD k (false, []) = z := ⟨_, rfl⟩
   rw [hD] at c0 c1 hxl hX0
   rw [hD2] at d0 d1 hY0
   simp only at c0 c1 d0 d1 hxl hX0 hY0
   have HD : Hid ((sRes s l).getD k (false, []) = (d, xs)) := hD
   have HD2 : Hid (r.getD k (false, []) = (d', ys)) := hD2
   have hX : Hid (IsInts wr va xs) := hX0
   have hY : Hid (IsInts wr va' ys) := hY0
   have i1 : (k : Int) < ((sRes s l).length : Int) := by omega
   have i2 : (k : Int) < (r.length : Int) := by omega
   obtain ⟨q0, HQ0⟩ : ∃ q0 : Bool, Hid (decide (((d, xs) : Bool × List Int) = (d', ys)) = q0) := ⟨_, rfl⟩
   have CX : Hid (∀ w', Below wr.heap.size wr w' → Calls Tryz.prog 32 #[.agg #[.bool d, .slice va xs.length vc], .agg #[.bool d', .slice va' ys.length vc']] w' fun e w'' => e = .returned (.bool q0) ∧ Below w'.heap.size w' w'') := fun w' hb => by
    have h := same_any d d' xs ys va va' vc vc' w' hxl (hX.out.below hb) (hY.out.below hb)
    rw [HQ0.out] at h
    exact h
   clear hx hy hD hD2 hX0 hY0 y1 y2 hX hY
   go_upto_region 6 with fail
   have KS : Hid (∀ w', Below wr.heap.size wr w' → w'.cell? ⟨b, off + k * 2, none⟩ = some (.bool d) ∧ w'.cell? ⟨b, off + k * 2 + 1, none⟩ = some (.slice va xs.length vc) ∧ w'.cell? ⟨p3, 0, none⟩ = some (.slice (some ⟨b', off', none⟩) r.length rc) ∧ w'.cell? ⟨b', off' + k * 2, none⟩ = some (.bool d') ∧ w'.cell? ⟨b', off' + k * 2 + 1, none⟩ = some (.slice va' ys.length vc')) := fun w' hb => ⟨ext_cell hb c0, ext_cell hb c1, ext_cell hb y3, ext_cell hb d0, ext_cell hb d1⟩
   clear c0 c1 d0 d1 y3
   refine wp_region_held_drew (S := (fun w' => w'.cell? ⟨b, off + k * 2, none⟩ = some (.bool d) ∧ w'.cell? ⟨b, off + k * 2 + 1, none⟩ = some (.slice va xs.length vc) ∧ w'.cell? ⟨p3, 0, none⟩ = some (.slice (some ⟨b', off', none⟩) r.length rc) ∧ w'.cell? ⟨b', off' + k * 2, none⟩ = some (.bool d') ∧ w'.cell? ⟨b', off' + k * 2 + 1, none⟩ = some (.slice va' ys.length vc'))) (by kernel_rfl) ?_ (fun hHeld => ?_)
   ·exact KS.out _ (grow_drew (Below.refl _ _))
   refine tk (i := 0) (oi := { dst := some 29, op := .move (.tmp 6), type := 33, pos := "audit.go:21", after := #[], guard := none }) (v := ?_) rfl (by kernel_rfl) (by kernel_rfl) (by kernel_rfl) (fun _ _ _ h => h) (by rfl) (by assumption) ?_ ?_; rotate_left; focus (intro w hSw; go_simp; first | done | with_reducible rfl)
   try simp only [Act.put, List.setIfInBounds_toArray, List.set_cons_zero, List.set_cons_succ]
   refine tk (i := 1) (oi := { dst := some 30, op := .move (.tmp 8), type := 3, pos := "audit.go:21", after := #[], guard := none }) (v := ?_) rfl (by kernel_rfl) (by kernel_rfl) (by kernel_rfl) (fun _ _ _ h => h) (by rfl) (by assumption) ?_ ?_; rotate_left; focus (intro w hSw; go_simp; first | done | with_reducible rfl)
   try simp only [Act.put, List.setIfInBounds_toArray, List.set_cons_zero, List.set_cons_succ]
   refine tk (i := 2) (oi := { dst := some 31, op := .indexAddr 33 (.tmp 29) (.tmp 30), type := 0, pos := "audit.go:21", after := #[{ on := 0, ground := .data }, { on := 1, ground := .data }], guard := none }) (v := ?_) rfl (by kernel_rfl) (by kernel_rfl) (by kernel_rfl) (fun _ _ _ h => h) (by rfl) (by assumption) ?_ ?_; rotate_left; focus (intro w hSw; go_simp; first | done | with_reducible rfl)
   try simp only [Act.put, List.setIfInBounds_toArray, List.set_cons_zero, List.set_cons_succ]
   refine tk (i := 3) (oi := { dst := some 32, op := .load 41 (.tmp 31), type := 41, pos := "audit.go:21", after := #[{ on := 2, ground := .data }], guard := none }) (v := ?_) rfl (by kernel_rfl) (by kernel_rfl) (by kernel_rfl) (fun _ _ _ h => h) (by rfl) (by assumption) ?_ ?_; rotate_left; focus (intro w hSw; go_simp; first | done | with_reducible rfl)
   try simp only [Act.put, List.setIfInBounds_toArray, List.set_cons_zero, List.set_cons_succ]
   refine tk (i := 4) (oi := { dst := some 33, op := .load 33 (.tmp 3), type := 33, pos := "audit.go:21", after := #[], guard := none }) (v := ?_) rfl (by kernel_rfl) (by kernel_rfl) (by kernel_rfl) (fun _ _ _ h => h) (by rfl) (by assumption) ?_ ?_; rotate_left; focus (intro w hSw; go_simp; first | done | with_reducible rfl)
   try simp only [Act.put, List.setIfInBounds_toArray, List.set_cons_zero, List.set_cons_succ]
   refine tk (i := 5) (oi := { dst := some 34, op := .move (.tmp 8), type := 3, pos := "audit.go:21", after := #[], guard := none }) (v := ?_) rfl (by kernel_rfl) (by kernel_rfl) (by kernel_rfl) (fun _ _ _ h => h) (by rfl) (by assumption) ?_ ?_; rotate_left; focus (intro w hSw; go_simp; first | done | with_reducible rfl)
   try simp only [Act.put, List.setIfInBounds_toArray, List.set_cons_zero, List.set_cons_succ]
   refine tk (i := 6) (oi := { dst := some 35, op := .indexAddr 33 (.tmp 33) (.tmp 34), type := 0, pos := "audit.go:21", after := #[{ on := 4, ground := .data }, { on := 5, ground := .data }], guard := none }) (v := ?_) rfl (by kernel_rfl) (by kernel_rfl) (by kernel_rfl) (fun _ _ _ h => h) (by rfl) (by assumption) ?_ ?_; rotate_left; focus (intro w hSw; go_simp; first | done | with_reducible rfl)
   try simp only [Act.put, List.setIfInBounds_toArray, List.set_cons_zero, List.set_cons_succ]
   refine tk (i := 7) (oi := { dst := some 36, op := .load 41 (.tmp 35), type := 41, pos := "audit.go:21", after := #[{ on := 6, ground := .data }], guard := none }) (v := ?_) rfl (by kernel_rfl) (by kernel_rfl) (by kernel_rfl) (fun _ _ _ h => h) (by rfl) (by assumption) ?_ ?_; rotate_left; focus (intro w hSw; go_simp; first | done | with_reducible rfl)
   try simp only [Act.put, List.setIfInBounds_toArray, List.set_cons_zero, List.set_cons_succ]
   refine wpAnyH_ready (rs := [8]) (by kernel_rfl) (by simp) ?_
   refine AllReadyH.cons (o := { dst := some 37, op := .call { callee := .value (.func 32), args := #[.tmp 32, .tmp 36], argTypes := #[41, 41] }, type := 4, pos := "audit.go:21", after := #[{ on := 3, ground := .data }, { on := 7, ground := .data }], guard := none }) rfl (fun K hK => ?_) (AllReadyH.nil)
   go_simp
   go_wp2_with (go_at_call 32; refine (CX.out _ (grow_drew (Below.refl _ _))).mono ?_; rintro e w4 ⟨rfl, hb4⟩)
   have B4 : Hid (Below wr.heap.size wr w4) := grow_trans (grow_drew (Below.refl _ _)) hb4
   clear hHeld
   refine hK.out _ _ (KS.out _ B4.out) (fun hHeld => ?_)
   clear hK K
   refine tk (i := 9) (oi := { dst := some 38, op := .unOp .not 4 (.tmp 37), type := 4, pos := "audit.go:21", after := #[{ on := 8, ground := .data }], guard := none }) (v := ?_) rfl (by kernel_rfl) (by kernel_rfl) (by kernel_rfl) (fun _ _ _ h => h) (by rfl) (by assumption) ?_ ?_; rotate_left; focus (intro w hSw; go_simp; first | done | with_reducible rfl)
   try simp only [Act.put, List.setIfInBounds_toArray, List.set_cons_zero, List.set_cons_succ]
   refine wpAnyH_done (by kernel_rfl) ?_ _
   clear hHeld KS
   by_cases hxy : ((d, xs) : Bool × List Int) = (d', ys)
   ·have H1 : Hid (∀ j, j < k + 1 → (sRes s l).getD j (false, []) = r.getD j (false, [])) := fun j hj => by
     by_cases e : j = k
     ·rw [e, HD.out, HD2.out]; exact hxy
     ·exact hsm.out j (by omega)
    have e0 : q0 = true := by rw [← HQ0.out]; exact decide_eq_true hxy
    subst e0
    clear hxy
    go_wp2
    go_roundw
    case rel => exact ⟨k + 1, by omega, by go_num, H1, grow_trans hB.out B4.out⟩
    case measure => simp [intOf]; omega
   ·have H1 : Hid (audN s l en r = (k : Nat)) := by
     obtain ⟨f1, f2⟩ := fD_at (sRes s l) r k hk2 (by omega) hsm.out (by rw [HD.out, HD2.out]; exact hxy)
     show _ = _
     unfold audN
     rw [if_neg f2, f1]
    have e0 : q0 = false := by rw [← HQ0.out]; exact decide_eq_false hxy
    subst e0
    clear hxy
    go_wp2
    go_ret
    exact ⟨by rw [H1.out]; rfl, grow_trans B1.out (grow_trans hB.out B4.out)⟩
  ·have hkk : k = (sRes s l).length := by omega
   have hAll : Hid (sRes s l = r) := eq_of_getD _ _ (by rw [HRL.out, HRN.out]) (fun j hj => hsm.out j (by omega))
   have i1 : ¬ (k : Int) < ((sRes s l).length : Int) := by omega
   have hEm : (sEnd s l).length ≤ maxLen := by rw [HEL.out]; unfold maxLen; omega
   clear hkk hk2 hsm y3
   go_wp2_with fail
   refine (equalInts_any (sEnd s l) en wa ea wc ec _ hEm (HWA.out.below hB.out) (HEN.out.below (grow_trans B1.out hB.out))).mono ?_
   rintro e w5 ⟨rfl, hb5⟩
   have y1 := ext_cell hb5 y1
   have B5 : Hid (Below w.heap.size w w5) := grow_trans B1.out (grow_trans hB.out hb5)
   by_cases hq : sEnd s l = en
   ·have H1 : Hid (audN s l en r = -1) := by show _ = _; unfold audN; rw [if_pos hAll.out, if_pos hq]
    rw [decide_eq_true hq]
    clear hq hb5
    go_wp2
    go_ret
    exact ⟨by rw [H1.out]; rfl, B5.out⟩
   ·have H1 : Hid (audN s l en r = (l.length : Nat)) := by show _ = _; unfold audN; rw [if_pos hAll.out, if_neg hq]
    rw [decide_eq_false hq]
    clear hq hb5
    go_wp2
    go_ret
    exact ⟨by rw [H1.out]; rfl, B5.out⟩
set_option maxHeartbeats 2000000 in
theorem audit_any (w : World) (hs : IsInts w sa s) (hl : IsTxs w la l) (he : IsInts w ea en) (hr : IsRes w ra r) :
  Calls Tryz.prog 7 #[.slice sa s.length sc, .slice la l.length lc, .slice ea en.length ec, .slice ra r.length rc] w fun e w' => e = .returned (.tuple #[.int .i64 (audV s l en r), .int .i64 (audE s l en r)]) ∧ Below w.heap.size w w' := by
 have hmf : ∀ (fn : Fn) (first cap : Array Value) (w : World), (Instr.makeFunc fn first cap).run Tryz.prog w = .ok (.func fn first cap) w := fun _ _ _ _ => rfl
 obtain ⟨W, hWe⟩ : ∃ W : World, W = ((((w.alloc (.cells #[.slice sa s.length sc] 25)).alloc (.cells #[.slice la l.length lc] 22)).alloc (.cells #[.slice ea en.length ec] 25)).alloc (.cells #[.slice ra r.length rc] 33)) := ⟨_, rfl⟩
 have hU : Hid (Below w.heap.size w W) := by subst hWe; exact (grow_alloc (grow_alloc (grow_alloc (grow_alloc (Below.refl _ _) _) _) _) _)
 have h0 : W.cell? ⟨w.heap.size, 0, none⟩ = some (.slice sa s.length sc) := by subst hWe; exact ext_cell (grow_alloc (grow_alloc (grow_alloc (Below.refl _ _) _) _) _) (at_new _ _ 25 _ 0 _ (by first | rfl | simp) rfl)
 have h1 : W.cell? ⟨w.heap.size + 1, 0, none⟩ = some (.slice la l.length lc) := by subst hWe; exact ext_cell (grow_alloc (grow_alloc (Below.refl _ _) _) _) (at_new _ _ 22 _ 0 _ (by first | rfl | simp) rfl)
 have h2 : W.cell? ⟨w.heap.size + 2, 0, none⟩ = some (.slice ea en.length ec) := by subst hWe; exact ext_cell (grow_alloc (Below.refl _ _) _) (at_new _ _ 25 _ 0 _ (by first | rfl | simp) rfl)
 have h3 : W.cell? ⟨w.heap.size + 3, 0, none⟩ = some (.slice ra r.length rc) := by subst hWe; exact ext_cell (Below.refl _ _) (at_new _ _ 33 _ 0 _ (by first | rfl | simp) rfl)
 have CC : Hid (Calls Tryz.prog 28 #[.func (.func 29) #[] #[.pointer (some ⟨w.heap.size, 0, none⟩), .pointer (some ⟨w.heap.size + 1, 0, none⟩), .pointer (some ⟨w.heap.size + 2, 0, none⟩), .pointer (some ⟨w.heap.size + 3, 0, none⟩)]] W fun e w' => e = .returned (.tuple #[.int .i64 (audV s l en r), .int .i64 (audE s l en r)]) ∧ Below W.heap.size W w') := by
  have g : Below W.heap.size W (W.alloc (.cells #[.int .i64 0] 30)) := grow_alloc (Below.refl _ _) _
  have gg := grow_trans hU.out g
  have h0 := ext_cell g h0
  have h1 := ext_cell g h1
  have h2 := ext_cell g h2
  have h3 := ext_cell g h3
  by_cases hE : audE s l en r = 0
  ·have e1 : audV s l en r = audN s l en r := if_pos hE
   rw [e1, hE]
   refine (caughtNu_ret 29 _ (fun _ => rfl) (fun v _ => v = .int .i64 (audN s l en r)) W (fun _ _ h => h) ((aud1_ok sa la ea ra sc lc ec rc s l en r _ _ _ _ _ h0 h1 h2 h3 (hs.below gg) (hl.below gg) (he.below gg) (hr.below gg) hE).mono ?_)).mono ?_
   ·rintro e w' ⟨rfl, hb⟩
    exact ⟨_, rfl, rfl, by simpa using hb⟩
   ·rintro e w' ⟨v, rfl, rfl, hb⟩
    exact ⟨rfl, hb⟩
  ·have e1 : audV s l en r = 0 := if_neg hE
   rw [e1]
   refine (caughtNu_pan 29 _ (fun _ => rfl) (audE s l en r) W ((aud1_pan sa la ea ra sc lc ec rc s l en r _ _ _ _ _ h0 h1 h2 h3 (hs.below gg) (hl.below gg) hE).mono ?_)).mono ?_
   ·rintro e w' ⟨rfl, hb⟩
    exact ⟨rfl, by simpa using hb⟩
   ·rintro e w' ⟨rfl, hb⟩
    exact ⟨rfl, hb⟩
 have HWe : Hid (W = _) := hWe
 clear h0 h1 h2 h3 hs hl he hr hWe
 go_enter Tryz.func7, Tryz.ntmps7
 go_upto_region 1 with fail
 rw [← HWe.out]
 clear HWe
 go_wp2_with fail
 refine CC.out.mono ?_
 rintro e w1 ⟨rfl, hb⟩
 have B1 : Hid (Below w.heap.size w w1) := grow_trans hU.out hb
 clear hb CC
 go_wp2
 go_ret2
 exact ⟨rfl, B1.out⟩
end Go.Proofs.YtcgpkonfneofdaaGreat
