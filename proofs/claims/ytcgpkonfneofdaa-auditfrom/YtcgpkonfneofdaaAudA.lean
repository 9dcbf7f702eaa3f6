/-
  Audit: small functions.
  Conditions: those that each theorem states.
-/
import Derived.Test.YtcgpkonfneofdaaStoreE
import Derived.Test.YtcgpkonfneofdaaPlaceA
import Derived.Test.YtcgpkonfneofdaaTool
import Derived.WalkKit
import Derived.WalkSpells
import Derived.WalkLawsBesides
import Derived.Defers
import Derived.Recover
import Derived.ProofKit
import Derived.Deep.RegionHeld
import Derived.Deep.RegionHeld3
import Derived.Deep.RegionLaw
import Derived.Deep.DeepCutAuto
import Derived.Deep.QuietTactic
import Derived.BigQuiet
import Derived.Maps.AppendAt
import Derived.Lib.SliceRun
import Derived.Deep.AppendLies
namespace Go.Proofs.Ytcgpkonfneofdaa
open Go.RowKit

set_option maxRecDepth 100000 in
theorem equalInts_any (zs ys : List Int) (a a' : Option Addr) (cap cap' : Nat) (w : World) (hl : zs.length ≤ maxLen) (hz : IsInts w a zs) (hy : IsInts w a' ys) :
    Calls Try.prog 29 #[.slice a zs.length cap, .slice a' ys.length cap'] w fun e w' => e = .returned (.bool (decide (zs = ys))) ∧ Below w.heap.size w w' := by
  unfold maxLen at hl
  by_cases hlen : zs.length = ys.length
  · have hbl : ((zs.length : Int) != (ys.length : Int)) = false := by simp [hlen]
    have HL : Hid (zs.length = ys.length) := hlen
    clear hlen
    go_enter Try.func29, Try.ntmps29
    go_wp2
    go_loopw [13] (fun i wr => ∃ k : Nat, k ≤ zs.length ∧ i = .int .i64 k ∧ Hid (zs = ys ↔ zs.drop k = ys.drop k) ∧ Below w.heap.size w wr) (fun i _ => zs.length - (intOf i).toNat)
    case atStart => exact ⟨0, Nat.zero_le _, rfl, Iff.rfl, Below.refl _ _⟩
    case round =>
      obtain ⟨k, hk, rfl, hno, hnx⟩ := hrel
      by_cases hlt : k < zs.length
      · have hlt' : k < ys.length := by have := HL.out; omega
        obtain ⟨b, off, rfl, hb, hc⟩ := hz k hlt
        obtain ⟨b', off', rfl, hb', hc'⟩ := hy k hlt'
        have hs : Hid (zs = ys ↔ (zs.getD k 0 = ys.getD k 0 ∧ zs.drop (k + 1) = ys.drop (k + 1))) := hno.out.trans (same_step zs ys k hlt hlt')
        have hc := (hnx.cell (p := ⟨b, off + k, none⟩) hb).trans hc
        have hc' := (hnx.cell (p := ⟨b', off' + k, none⟩) hb').trans hc'
        have HX : Hid (Below w.heap.size w wr) := hnx
        generalize zs.getD k 0 = x at *
        generalize ys.getD k 0 = y at *
        clear hno hz hy hnx
        have i1 : (0 : Int) ≤ (k : Int) := by omega
        have i2 : (k : Int) < (zs.length : Int) := by omega
        have i3 : (k : Int) < (ys.length : Int) := by omega
        by_cases h1 : x = y
        · have H' : Hid (zs = ys ↔ zs.drop (k + 1) = ys.drop (k + 1)) := hs.out.trans (by simp [h1])
          have h2 : (x != y) = false := by simpa using h1
          clear hs h1
          go_wp2_with fail
          go_quiet (fail)
          go_wp2
          go_roundw
          case rel => exact ⟨k + 1, by omega, by go_num, H', below_drewN HX.out _⟩
          case measure => simp [intOf]; omega
        · have H' : Hid (¬ zs = ys) := by
            intro e
            exact h1 (hs.out.1 e).1
          have h2 : (x != y) = true := by simpa using h1
          clear hs h1
          go_wp2_with fail
          go_quiet (fail)
          go_wp2
          go_ret
          exact ⟨by rw [decide_eq_false H'.out]; rfl, below_drewN HX.out _⟩
      · have H' : Hid (zs = ys) := by
          refine hno.out.2 ?_
          have := HL.out
          rw [List.drop_of_length_le (by omega), List.drop_of_length_le (by omega)]
        clear hno hz hy
        go_wp2
        go_ret
        exact ⟨by rw [decide_eq_true H'.out]; rfl, hnx⟩
  · have H' : Hid (¬ zs = ys) := fun e => hlen (by rw [e])
    have hbl : ((zs.length : Int) != (ys.length : Int)) = true := by simp; omega
    clear hlen hz hy
    go_enter Try.func29, Try.ntmps29
    go_wp2
    go_ret
    exact ⟨by rw [decide_eq_false H'.out]; rfl, Below.refl _ _⟩

/-- Are there as many? -/
def cntE (n m : Nat) : Int := if m = n then 0 else 1
set_option maxRecDepth 100000 in
theorem audCount_any (xa ya : Option Addr) (n m xc yc : Nat) (w : World) :
    Calls Try.prog 27 #[.slice xa n xc, .slice ya m yc] w fun e w' => e = .returned (.int .i64 (cntE n m)) ∧ w' = w := by
  by_cases h : m = n
  · have e0 : cntE n m = 0 := if_pos h
    rw [e0]
    have hb : ((m : Int) != (n : Int)) = false := by simp [h]
    clear h e0
    go_enter Try.func27, Try.ntmps27
    go_wp2
    go_ret
    exact ⟨rfl, rfl⟩
  · have e0 : cntE n m = 1 := if_neg h
    rw [e0]
    have hb : ((m : Int) != (n : Int)) = true := by simp; omega
    clear h e0
    go_enter Try.func27, Try.ntmps27
    go_wp2
    go_ret
    exact ⟨rfl, rfl⟩
set_option maxRecDepth 100000 in
theorem audNone_any (la : Option Addr) (k lc : Nat) (n : Int) (w : World) :
    Calls Try.prog 32 #[.slice la k lc, .int .i64 n] w fun e w' => e = .returned (.int .i64 (noneE n k)) ∧ w' = w := by
  by_cases h1 : n < 0
  · have e : noneE n k = 5 := if_pos (Or.inl h1)
    rw [e]
    clear e
    go_enter Try.func32, Try.ntmps32
    go_wp2
    go_ret
    exact ⟨rfl, rfl⟩
  · by_cases h2 : (k : Int) ≤ n
    · have e : noneE n k = 5 := if_pos (Or.inr h2)
      rw [e]
      clear e
      go_enter Try.func32, Try.ntmps32
      go_wp2
      go_ret
      exact ⟨rfl, rfl⟩
    · have e : noneE n k = 0 := if_neg (by omega)
      have h3 : n < (k : Int) := by omega
      rw [e]
      clear e h2
      go_enter Try.func32, Try.ntmps32
      go_wp2
      go_ret
      exact ⟨rfl, rfl⟩
set_option maxRecDepth 100000 in
set_option maxHeartbeats 1000000 in
/-- Are two results the same? -/
theorem same_any (d d' : Bool) (xs ys : List Int) (va va' : Option Addr) (vc vc' : Nat) (w : World) (hxl : xs.length ≤ maxLen) (hx : IsInts w va xs) (hy : IsInts w va' ys) :
    Calls Try.prog 28 #[.agg #[.bool d, .slice va xs.length vc], .agg #[.bool d', .slice va' ys.length vc']] w fun e w' => e = .returned (.bool (decide (((d, xs) : Bool × List Int) = (d', ys)))) ∧ Below w.heap.size w w' := by
  obtain ⟨W, hWe⟩ : ∃ W : World, W = ((w.alloc (.cells #[.bool d, .slice va xs.length vc] 40)).alloc (.cells #[.bool d', .slice va' ys.length vc'] 40)) := ⟨_, rfl⟩
  have hU : Hid (Below w.heap.size w W) := by subst hWe; exact grow_alloc (grow_alloc (Below.refl _ _) _) _
  have p0 : W.cell? ⟨w.heap.size, 0, none⟩ = some (.bool d) := by subst hWe; exact ext_cell (grow_alloc (Below.refl _ _) _) (at_new _ _ 40 _ 0 _ rfl rfl)
  have p1 : W.cell? ⟨w.heap.size, 1, none⟩ = some (.slice va xs.length vc) := by subst hWe; exact ext_cell (grow_alloc (Below.refl _ _) _) (at_new _ _ 40 _ 1 _ rfl rfl)
  have q0 : W.cell? ⟨w.heap.size + 1, 0, none⟩ = some (.bool d') := by subst hWe; exact at_new _ _ 40 _ 0 _ (by simp) rfl
  have q1 : W.cell? ⟨w.heap.size + 1, 1, none⟩ = some (.slice va' ys.length vc') := by subst hWe; exact at_new _ _ 40 _ 1 _ (by simp) rfl
  have HX : Hid (IsInts W va xs) := hx.below hU.out
  have HY : Hid (IsInts W va' ys) := hy.below hU.out
  have HWe : Hid (W = _) := hWe
  clear hx hy hWe
  by_cases hd : d = d'
  · subst hd
    have HD : Hid (decide (((d, xs) : Bool × List Int) = (d, ys)) = decide (xs = ys)) := by show _ = _; simp
    go_enter Try.func28, Try.ntmps28
    go_upto_region 1 with fail
    rw [← HWe.out]
    clear HWe
    go_wp2_with fail
    refine (equalInts_any xs ys va va' vc vc' _ hxl HX.out HY.out).mono ?_
    rintro e w1 ⟨rfl, hb1⟩
    have B1 : Hid (Below w.heap.size w w1) := grow_trans hU.out hb1
    clear hb1
    go_wp2
    go_ret
    exact ⟨by rw [HD.out]; rfl, B1.out⟩
  · have HD : Hid (decide (((d, xs) : Bool × List Int) = (d', ys)) = false) := decide_eq_false (fun e => hd (by injection e))
    have hd' : (d == d') = false := by simpa using hd
    clear hd
    go_enter Try.func28, Try.ntmps28
    go_upto_region 1 with fail
    rw [← HWe.out]
    clear HWe
    go_wp2
    go_ret
    exact ⟨by rw [HD.out]; rfl, hU.out⟩
set_option maxRecDepth 100000 in
set_option maxHeartbeats 2000000 in
/-- The document's: lists of one result each. -/
theorem sameRes_one (d d' : Bool) (xs ys : List Int) (a a' : Option Addr) (c c' : Nat) (w : World) (hxl : xs.length ≤ maxLen) (h1 : IsRes w a [(d, xs)]) (h2 : IsRes w a' [(d', ys)]) :
    Calls Try.prog 37 #[.slice a 1 c, .slice a' 1 c'] w fun e w' => e = .returned (.bool (decide (((d, xs) : Bool × List Int) = (d', ys)))) ∧ Below w.heap.size w w' := by
  obtain ⟨b, off, va, vc, rfl, hb, p0, p1, hx⟩ := h1 0 (by simp)
  obtain ⟨b', off', va', vc', rfl, hb', q0, q1, hy⟩ := h2 0 (by simp)
  simp only [Nat.zero_mul, Nat.add_zero, List.getD_cons_zero] at p0 p1 q0 q1 hx hy
  have hX : Hid (IsInts w va xs) := hx
  have hY : Hid (IsInts w va' ys) := hy
  clear h1 h2 hx hy hb hb'
  by_cases hd : d = d'
  · subst hd
    have KS : Hid (∀ w', Below w.heap.size w w' → w'.cell? ⟨b, off, none⟩ = some (.bool d) ∧ w'.cell? ⟨b, off + 1, none⟩ = some (.slice va xs.length vc) ∧ w'.cell? ⟨b', off', none⟩ = some (.bool d) ∧ w'.cell? ⟨b', off' + 1, none⟩ = some (.slice va' ys.length vc')) := fun w' hb => ⟨ext_cell hb p0, ext_cell hb p1, ext_cell hb q0, ext_cell hb q1⟩
    clear p0 p1 q0 q1
    go_enter Try.func37, Try.ntmps37
    go_wp2
    go_loopw [5] (fun i wr => ∃ k : Nat, k ≤ 1 ∧ i = .int .i64 k ∧ Hid (Below w.heap.size w wr) ∧ (k = 1 → ((d, xs) : Bool × List Int) = (d, ys))) (fun i _ => 1 - (intOf i).toNat)
    case atStart => exact ⟨0, Nat.zero_le _, rfl, Below.refl _ _, fun h => by cases h⟩
    case round =>
      obtain ⟨k, hk, rfl, hB, hend⟩ := hrel
      by_cases hlt : k = 0
      · subst hlt
        clear hend
        go_upto_region 6 with fail
        have KW : Hid (∀ w', Below wr.heap.size wr w' → w'.cell? ⟨b, off, none⟩ = some (.bool d) ∧ w'.cell? ⟨b, off + 1, none⟩ = some (.slice va xs.length vc) ∧ w'.cell? ⟨b', off', none⟩ = some (.bool d) ∧ w'.cell? ⟨b', off' + 1, none⟩ = some (.slice va' ys.length vc')) := fun w' hb => KS.out w' (grow_trans hB.out hb)
        have hXr : Hid (IsInts wr va xs) := hX.out.below hB.out
        have hYr : Hid (IsInts wr va' ys) := hY.out.below hB.out
        refine wp_region_held_drew (S := (fun w' => w'.cell? ⟨b, off, none⟩ = some (.bool d) ∧ w'.cell? ⟨b, off + 1, none⟩ = some (.slice va xs.length vc) ∧ w'.cell? ⟨b', off', none⟩ = some (.bool d) ∧ w'.cell? ⟨b', off' + 1, none⟩ = some (.slice va' ys.length vc'))) (by kernel_rfl) ?_ (fun hHeld => ?_)
        · exact KW.out _ (grow_drew (Below.refl _ _))
        refine wpAnyH_take (i := 0) (oi := { dst := some 17, op := .move (.tmp 0), type := 24, pos := "txn.go:244", after := #[], guard := none }) (v := ?_) rfl (by kernel_rfl) (by kernel_rfl) (by kernel_rfl) (fun _ _ _ h => h) (Or.inl ⟨by rfl, ?_⟩) (by assumption) ?_
        rotate_left
        · intro w hSw
          go_simp
          first | done | with_reducible rfl
        try simp only [Act.put, List.setIfInBounds_toArray, List.set_cons_zero, List.set_cons_succ]
        refine wpAnyH_take (i := 1) (oi := { dst := some 18, op := .move (.tmp 5), type := 3, pos := "txn.go:244", after := #[], guard := none }) (v := ?_) rfl (by kernel_rfl) (by kernel_rfl) (by kernel_rfl) (fun _ _ _ h => h) (Or.inl ⟨by rfl, ?_⟩) (by assumption) ?_
        rotate_left
        · intro w hSw
          go_simp
          first | done | with_reducible rfl
        try simp only [Act.put, List.setIfInBounds_toArray, List.set_cons_zero, List.set_cons_succ]
        refine wpAnyH_take (i := 2) (oi := { dst := some 19, op := .indexAddr 24 (.tmp 17) (.tmp 18), type := 0, pos := "txn.go:244", after := #[{ on := 0, ground := .data }, { on := 1, ground := .data }], guard := none }) (v := ?_) rfl (by kernel_rfl) (by kernel_rfl) (by kernel_rfl) (fun _ _ _ h => h) (Or.inl ⟨by rfl, ?_⟩) (by assumption) ?_
        rotate_left
        · intro w hSw
          go_simp
          first | done | with_reducible rfl
        try simp only [Act.put, List.setIfInBounds_toArray, List.set_cons_zero, List.set_cons_succ]
        refine wpAnyH_take (i := 3) (oi := { dst := some 20, op := .fieldAddr 40 (.tmp 19) 0, type := 0, pos := "txn.go:244", after := #[{ on := 2, ground := .data }], guard := none }) (v := ?_) rfl (by kernel_rfl) (by kernel_rfl) (by kernel_rfl) (fun _ _ _ h => h) (Or.inl ⟨by rfl, ?_⟩) (by assumption) ?_
        rotate_left
        · intro w hSw
          go_simp
          first | done | with_reducible rfl
        try simp only [Act.put, List.setIfInBounds_toArray, List.set_cons_zero, List.set_cons_succ]
        refine wpAnyH_take (i := 4) (oi := { dst := some 21, op := .load 4 (.tmp 20), type := 4, pos := "txn.go:244", after := #[{ on := 3, ground := .data }], guard := none }) (v := ?_) rfl (by kernel_rfl) (by kernel_rfl) (by kernel_rfl) (fun _ _ _ h => h) (Or.inl ⟨by rfl, ?_⟩) (by assumption) ?_
        rotate_left
        · intro w hSw
          go_simp
          first | done | with_reducible rfl
        try simp only [Act.put, List.setIfInBounds_toArray, List.set_cons_zero, List.set_cons_succ]
        refine wpAnyH_take (i := 5) (oi := { dst := some 22, op := .move (.tmp 1), type := 24, pos := "txn.go:244", after := #[], guard := none }) (v := ?_) rfl (by kernel_rfl) (by kernel_rfl) (by kernel_rfl) (fun _ _ _ h => h) (Or.inl ⟨by rfl, ?_⟩) (by assumption) ?_
        rotate_left
        · intro w hSw
          go_simp
          first | done | with_reducible rfl
        try simp only [Act.put, List.setIfInBounds_toArray, List.set_cons_zero, List.set_cons_succ]
        refine wpAnyH_take (i := 6) (oi := { dst := some 23, op := .move (.tmp 5), type := 3, pos := "txn.go:244", after := #[], guard := none }) (v := ?_) rfl (by kernel_rfl) (by kernel_rfl) (by kernel_rfl) (fun _ _ _ h => h) (Or.inl ⟨by rfl, ?_⟩) (by assumption) ?_
        rotate_left
        · intro w hSw
          go_simp
          first | done | with_reducible rfl
        try simp only [Act.put, List.setIfInBounds_toArray, List.set_cons_zero, List.set_cons_succ]
        refine wpAnyH_take (i := 7) (oi := { dst := some 24, op := .indexAddr 24 (.tmp 22) (.tmp 23), type := 0, pos := "txn.go:244", after := #[{ on := 5, ground := .data }, { on := 6, ground := .data }], guard := none }) (v := ?_) rfl (by kernel_rfl) (by kernel_rfl) (by kernel_rfl) (fun _ _ _ h => h) (Or.inl ⟨by rfl, ?_⟩) (by assumption) ?_
        rotate_left
        · intro w hSw
          go_simp
          first | done | with_reducible rfl
        try simp only [Act.put, List.setIfInBounds_toArray, List.set_cons_zero, List.set_cons_succ]
        refine wpAnyH_take (i := 8) (oi := { dst := some 25, op := .fieldAddr 40 (.tmp 24) 0, type := 0, pos := "txn.go:244", after := #[{ on := 7, ground := .data }], guard := none }) (v := ?_) rfl (by kernel_rfl) (by kernel_rfl) (by kernel_rfl) (fun _ _ _ h => h) (Or.inl ⟨by rfl, ?_⟩) (by assumption) ?_
        rotate_left
        · intro w hSw
          go_simp
          first | done | with_reducible rfl
        try simp only [Act.put, List.setIfInBounds_toArray, List.set_cons_zero, List.set_cons_succ]
        refine wpAnyH_take (i := 9) (oi := { dst := some 26, op := .load 4 (.tmp 25), type := 4, pos := "txn.go:244", after := #[{ on := 8, ground := .data }], guard := none }) (v := ?_) rfl (by kernel_rfl) (by kernel_rfl) (by kernel_rfl) (fun _ _ _ h => h) (Or.inl ⟨by rfl, ?_⟩) (by assumption) ?_
        rotate_left
        · intro w hSw
          go_simp
          first | done | with_reducible rfl
        try simp only [Act.put, List.setIfInBounds_toArray, List.set_cons_zero, List.set_cons_succ]
        refine wpAnyH_take (i := 10) (oi := { dst := some 27, op := .binOp .neq 4 (.tmp 21) (.tmp 26) 4, type := 4, pos := "txn.go:244", after := #[{ on := 4, ground := .data }, { on := 9, ground := .data }], guard := none }) (v := ?_) rfl (by kernel_rfl) (by kernel_rfl) (by kernel_rfl) (fun _ _ _ h => h) (Or.inl ⟨by rfl, ?_⟩) (by assumption) ?_
        rotate_left
        · intro w hSw
          go_simp
          first | done | with_reducible rfl
        try simp only [Act.put, List.setIfInBounds_toArray, List.set_cons_zero, List.set_cons_succ]
        refine wpAnyH_take (i := 11) (oi := { dst := some 28, op := .move (.tmp 27), type := 4, pos := "txn.go:244", after := #[{ on := 10, ground := .data }], guard := none }) (v := ?_) rfl (by kernel_rfl) (by kernel_rfl) (by kernel_rfl) (fun _ _ _ h => h) (Or.inl ⟨by rfl, ?_⟩) (by assumption) ?_
        rotate_left
        · intro w hSw
          go_simp
          first | done | with_reducible rfl
        try simp only [Act.put, List.setIfInBounds_toArray, List.set_cons_zero, List.set_cons_succ]
        refine wpAnyH_take (i := 12) (oi := { dst := some 29, op := .move (.tmp 0), type := 24, pos := "txn.go:244", after := #[{ on := 11, ground := .guard }], guard := some (11, false) }) (v := ?_) rfl (by kernel_rfl) (by kernel_rfl) (by kernel_rfl) (fun _ _ _ h => h) (Or.inl ⟨by rfl, ?_⟩) (by assumption) ?_
        rotate_left
        · intro w hSw
          go_simp
          first | done | with_reducible rfl
        try simp only [Act.put, List.setIfInBounds_toArray, List.set_cons_zero, List.set_cons_succ]
        refine wpAnyH_take (i := 13) (oi := { dst := some 30, op := .move (.tmp 5), type := 3, pos := "txn.go:244", after := #[{ on := 11, ground := .guard }], guard := some (11, false) }) (v := ?_) rfl (by kernel_rfl) (by kernel_rfl) (by kernel_rfl) (fun _ _ _ h => h) (Or.inl ⟨by rfl, ?_⟩) (by assumption) ?_
        rotate_left
        · intro w hSw
          go_simp
          first | done | with_reducible rfl
        try simp only [Act.put, List.setIfInBounds_toArray, List.set_cons_zero, List.set_cons_succ]
        refine wpAnyH_take (i := 14) (oi := { dst := some 31, op := .indexAddr 24 (.tmp 29) (.tmp 30), type := 0, pos := "txn.go:244", after := #[{ on := 12, ground := .data }, { on := 13, ground := .data }, { on := 11, ground := .guard }], guard := some (11, false) }) (v := ?_) rfl (by kernel_rfl) (by kernel_rfl) (by kernel_rfl) (fun _ _ _ h => h) (Or.inl ⟨by rfl, ?_⟩) (by assumption) ?_
        rotate_left
        · intro w hSw
          go_simp
          first | done | with_reducible rfl
        try simp only [Act.put, List.setIfInBounds_toArray, List.set_cons_zero, List.set_cons_succ]
        refine wpAnyH_take (i := 15) (oi := { dst := some 32, op := .fieldAddr 40 (.tmp 31) 1, type := 0, pos := "txn.go:244", after := #[{ on := 14, ground := .data }, { on := 11, ground := .guard }], guard := some (11, false) }) (v := ?_) rfl (by kernel_rfl) (by kernel_rfl) (by kernel_rfl) (fun _ _ _ h => h) (Or.inl ⟨by rfl, ?_⟩) (by assumption) ?_
        rotate_left
        · intro w hSw
          go_simp
          first | done | with_reducible rfl
        try simp only [Act.put, List.setIfInBounds_toArray, List.set_cons_zero, List.set_cons_succ]
        refine wpAnyH_take (i := 16) (oi := { dst := some 33, op := .load 22 (.tmp 32), type := 22, pos := "txn.go:244", after := #[{ on := 15, ground := .data }, { on := 11, ground := .guard }], guard := some (11, false) }) (v := ?_) rfl (by kernel_rfl) (by kernel_rfl) (by kernel_rfl) (fun _ _ _ h => h) (Or.inl ⟨by rfl, ?_⟩) (by assumption) ?_
        rotate_left
        · intro w hSw
          go_simp
          first | done | with_reducible rfl
        try simp only [Act.put, List.setIfInBounds_toArray, List.set_cons_zero, List.set_cons_succ]
        refine wpAnyH_take (i := 17) (oi := { dst := some 34, op := .move (.tmp 1), type := 24, pos := "txn.go:244", after := #[{ on := 11, ground := .guard }], guard := some (11, false) }) (v := ?_) rfl (by kernel_rfl) (by kernel_rfl) (by kernel_rfl) (fun _ _ _ h => h) (Or.inl ⟨by rfl, ?_⟩) (by assumption) ?_
        rotate_left
        · intro w hSw
          go_simp
          first | done | with_reducible rfl
        try simp only [Act.put, List.setIfInBounds_toArray, List.set_cons_zero, List.set_cons_succ]
        refine wpAnyH_take (i := 18) (oi := { dst := some 35, op := .move (.tmp 5), type := 3, pos := "txn.go:244", after := #[{ on := 11, ground := .guard }], guard := some (11, false) }) (v := ?_) rfl (by kernel_rfl) (by kernel_rfl) (by kernel_rfl) (fun _ _ _ h => h) (Or.inl ⟨by rfl, ?_⟩) (by assumption) ?_
        rotate_left
        · intro w hSw
          go_simp
          first | done | with_reducible rfl
        try simp only [Act.put, List.setIfInBounds_toArray, List.set_cons_zero, List.set_cons_succ]
        refine wpAnyH_take (i := 19) (oi := { dst := some 36, op := .indexAddr 24 (.tmp 34) (.tmp 35), type := 0, pos := "txn.go:244", after := #[{ on := 17, ground := .data }, { on := 18, ground := .data }, { on := 11, ground := .guard }], guard := some (11, false) }) (v := ?_) rfl (by kernel_rfl) (by kernel_rfl) (by kernel_rfl) (fun _ _ _ h => h) (Or.inl ⟨by rfl, ?_⟩) (by assumption) ?_
        rotate_left
        · intro w hSw
          go_simp
          first | done | with_reducible rfl
        try simp only [Act.put, List.setIfInBounds_toArray, List.set_cons_zero, List.set_cons_succ]
        refine wpAnyH_take (i := 20) (oi := { dst := some 37, op := .fieldAddr 40 (.tmp 36) 1, type := 0, pos := "txn.go:244", after := #[{ on := 19, ground := .data }, { on := 11, ground := .guard }], guard := some (11, false) }) (v := ?_) rfl (by kernel_rfl) (by kernel_rfl) (by kernel_rfl) (fun _ _ _ h => h) (Or.inl ⟨by rfl, ?_⟩) (by assumption) ?_
        rotate_left
        · intro w hSw
          go_simp
          first | done | with_reducible rfl
        try simp only [Act.put, List.setIfInBounds_toArray, List.set_cons_zero, List.set_cons_succ]
        refine wpAnyH_take (i := 21) (oi := { dst := some 38, op := .load 22 (.tmp 37), type := 22, pos := "txn.go:244", after := #[{ on := 20, ground := .data }, { on := 11, ground := .guard }], guard := some (11, false) }) (v := ?_) rfl (by kernel_rfl) (by kernel_rfl) (by kernel_rfl) (fun _ _ _ h => h) (Or.inl ⟨by rfl, ?_⟩) (by assumption) ?_
        rotate_left
        · intro w hSw
          go_simp
          first | done | with_reducible rfl
        try simp only [Act.put, List.setIfInBounds_toArray, List.set_cons_zero, List.set_cons_succ]
        refine wpAnyH_ready (rs := [22]) (by kernel_rfl) (by simp) ?_
        refine AllReadyH.cons (o := { dst := some 39, op := .call { callee := .value (.func 12), args := #[.tmp 33, .tmp 38], argTypes := #[22, 22] }, type := 4, pos := "txn.go:244", after := #[{ on := 16, ground := .data }, { on := 21, ground := .data }, { on := 11, ground := .chain }, { on := 11, ground := .guard }], guard := some (11, false) }) rfl (fun K hK => ?_) (AllReadyH.nil)
        go_simp
        go_wp2_with (go_at_call 12; refine (sameInts_any xs ys va va' vc vc' _ hxl (hXr.out.below (grow_drew (Below.refl _ _))) (hYr.out.below (grow_drew (Below.refl _ _)))).mono ?_; rintro e w2 ⟨rfl, hb2⟩)
        have B2 : Hid (Below wr.heap.size wr w2) := grow_trans (grow_drew (Below.refl _ _)) hb2
        clear hHeld
        refine hK.out _ _ (KW.out _ B2.out) (fun hHeld => ?_)
        clear hK K
        refine wpAnyH_take (i := 23) (oi := { dst := some 40, op := .unOp .not 4 (.tmp 39), type := 4, pos := "txn.go:244", after := #[{ on := 22, ground := .data }, { on := 11, ground := .guard }], guard := some (11, false) }) (v := ?_) rfl (by kernel_rfl) (by kernel_rfl) (by kernel_rfl) (fun _ _ _ h => h) (Or.inl ⟨by rfl, ?_⟩) (by assumption) ?_
        rotate_left
        · intro w hSw
          go_simp
          first | done | with_reducible rfl
        try simp only [Act.put, List.setIfInBounds_toArray, List.set_cons_zero, List.set_cons_succ]
        refine wpAnyH_take (i := 24) (oi := { dst := some 41, op := .pick (.tmp 28) (.const (.bool true)) (.tmp 40), type := 4, pos := "txn.go:244", after := #[{ on := 11, ground := .data }, { on := 23, ground := .data }], guard := none }) (v := ?_) rfl (by kernel_rfl) (by kernel_rfl) (by kernel_rfl) (fun _ _ _ h => h) (Or.inl ⟨by rfl, ?_⟩) (by assumption) ?_
        rotate_left
        · intro w hSw
          go_simp
          first | done | with_reducible rfl
        try simp only [Act.put, List.setIfInBounds_toArray, List.set_cons_zero, List.set_cons_succ]
        refine wpAnyH_done (by kernel_rfl) ?_ _
        clear hHeld KW
        by_cases hxy : xs = ys
        · have e0 : decide (xs = ys) = true := decide_eq_true hxy
          have H1 : Hid (((d, xs) : Bool × List Int) = (d, ys)) := by show _ = _; rw [hxy]
          rw [e0]
          clear hxy e0
          go_wp2
          go_roundw
          case rel => exact ⟨1, Nat.le_refl _, by go_num, grow_trans hB.out B2.out, fun _ => H1.out⟩
          case measure => simp [intOf]
        · have e0 : decide (xs = ys) = false := decide_eq_false hxy
          have H1 : Hid (¬ ((d, xs) : Bool × List Int) = (d, ys)) := fun e => hxy (by injection e)
          rw [e0]
          clear hxy e0
          go_wp2
          go_ret
          exact ⟨by rw [decide_eq_false H1.out]; rfl, grow_trans hB.out B2.out⟩
      · have hk1 : k = 1 := by omega
        subst hk1
        have H1 : Hid (((d, xs) : Bool × List Int) = (d, ys)) := hend rfl
        clear hend hlt
        go_wp2
        go_ret
        exact ⟨by rw [decide_eq_true H1.out]; rfl, hB.out⟩
  · have HD : Hid (decide (((d, xs) : Bool × List Int) = (d', ys)) = false) := decide_eq_false (fun e => hd (by injection e))
    have hd' : (d = true ∧ d' = false) ∨ (d = false ∧ d' = true) := by
      cases d <;> cases d' <;> simp at hd ⊢
    clear hd hX hY
    rcases hd' with ⟨rfl, rfl⟩ | ⟨rfl, rfl⟩ <;>
    · go_enter Try.func37, Try.ntmps37
      go_wp2
      go_loopw [5] (fun i wr => i = .int .i64 0 ∧ wr = w) (fun i _ => 0)
      case atStart => exact ⟨rfl, rfl⟩
      case round =>
        obtain ⟨rfl, hwr⟩ := hrel
        subst hwr
        go_wp2_with fail
        go_quiet (fail)
        go_wp2
        go_ret
        exact ⟨by rw [HD.out]; rfl, below_drewN (Below.refl _ _) _⟩
end Go.Proofs.Ytcgpkonfneofdaa
