/-
  What the function literals inside Reckon and Holds come to: for each operation and comparison, and for a kind that is none.
  Conditions: the three captured variables hold the three numbers.
-/
import Derived.Test.YtcgpkonfneofdaaBase
import Derived.WalkKit
import Derived.WalkSpells
import Derived.WalkLawsBesides
import Derived.Defers
import Derived.Recover
import Derived.ProofKit
import Derived.Laws.Pointers
import Derived.Deep.RegionHeld3
import Derived.Deep.QuietTactic
import Derived.BigQuiet
import Derived.Maps.OwnSet
namespace Go.Proofs.Ytcgpkonfneofdaa
open Go.RowKit

set_option maxHeartbeats 400000 in
theorem reckon1_1 (a b : Int) (p0 p1 p2 : Nat) (w : World) (h0 : w.cell? ⟨p0, 0, none⟩ = some (.int .i64 1)) (h1 : w.cell? ⟨p1, 0, none⟩ = some (.int .i64 a)) (h2 : w.cell? ⟨p2, 0, none⟩ = some (.int .i64 b)) :
    Calls Try.prog 125 #[.pointer (some ⟨p0, 0, none⟩), .pointer (some ⟨p1, 0, none⟩), .pointer (some ⟨p2, 0, none⟩)] w fun e w' => e = .returned (.int .i64 a) ∧ Below w.heap.size w w' := by
  have e0 := World.new_ne w _ h0
  have e1 := World.new_ne w _ h1
  have e2 := World.new_ne w _ h2
  go_enter Try.func125, Try.ntmps125
  go_wp2_with fail
  go_region_held3 (fun w' => w'.cell? ⟨p0, 0, none⟩ = some (.int .i64 1) ∧ w'.cell? ⟨p1, 0, none⟩ = some (.int .i64 a) ∧ w'.cell? ⟨p2, 0, none⟩ = some (.int .i64 b)) (go_keep)
    (first
      | (go_at_call 127; refine (operations_any _).mono ?_; rintro e w' ⟨rfl, rfl⟩)
      | (go_at_call 126; refine (operations_found 1 0 (.func (.func 135) #[] #[]) rfl _ _ ?_).mono ?_; (show (w.heap.push _)[w.heap.size]? = _; simp); rintro e w' ⟨rfl, rfl⟩)
      | (go_at_call 135; refine (cl54 _ _ _).mono ?_; rintro e w' ⟨rfl, rfl⟩))
  go_wp2
  go_ret
  exact ⟨rfl, ((Below.refl _ _).alloc (Nat.le_refl _) _).drew⟩

set_option maxHeartbeats 400000 in
theorem reckon1_2 (a b : Int) (p0 p1 p2 : Nat) (w : World) (h0 : w.cell? ⟨p0, 0, none⟩ = some (.int .i64 2)) (h1 : w.cell? ⟨p1, 0, none⟩ = some (.int .i64 a)) (h2 : w.cell? ⟨p2, 0, none⟩ = some (.int .i64 b)) :
    Calls Try.prog 125 #[.pointer (some ⟨p0, 0, none⟩), .pointer (some ⟨p1, 0, none⟩), .pointer (some ⟨p2, 0, none⟩)] w fun e w' => e = .returned (.int .i64 (wrap64 (a + b))) ∧ Below w.heap.size w w' := by
  have e0 := World.new_ne w _ h0
  have e1 := World.new_ne w _ h1
  have e2 := World.new_ne w _ h2
  go_enter Try.func125, Try.ntmps125
  go_wp2_with fail
  go_region_held3 (fun w' => w'.cell? ⟨p0, 0, none⟩ = some (.int .i64 2) ∧ w'.cell? ⟨p1, 0, none⟩ = some (.int .i64 a) ∧ w'.cell? ⟨p2, 0, none⟩ = some (.int .i64 b)) (go_keep)
    (first
      | (go_at_call 127; refine (operations_any _).mono ?_; rintro e w' ⟨rfl, rfl⟩)
      | (go_at_call 126; refine (operations_found 2 1 (.func (.func 136) #[] #[]) rfl _ _ ?_).mono ?_; (show (w.heap.push _)[w.heap.size]? = _; simp); rintro e w' ⟨rfl, rfl⟩)
      | (go_at_call 136; refine (cl55 _ _ _).mono ?_; rintro e w' ⟨rfl, rfl⟩))
  go_wp2
  go_ret
  exact ⟨rfl, ((Below.refl _ _).alloc (Nat.le_refl _) _).drew⟩

set_option maxHeartbeats 400000 in
theorem reckon1_3 (a b : Int) (p0 p1 p2 : Nat) (w : World) (h0 : w.cell? ⟨p0, 0, none⟩ = some (.int .i64 3)) (h1 : w.cell? ⟨p1, 0, none⟩ = some (.int .i64 a)) (h2 : w.cell? ⟨p2, 0, none⟩ = some (.int .i64 b)) :
    Calls Try.prog 125 #[.pointer (some ⟨p0, 0, none⟩), .pointer (some ⟨p1, 0, none⟩), .pointer (some ⟨p2, 0, none⟩)] w fun e w' => e = .returned (.int .i64 (wrap64 (a - b))) ∧ Below w.heap.size w w' := by
  have e0 := World.new_ne w _ h0
  have e1 := World.new_ne w _ h1
  have e2 := World.new_ne w _ h2
  go_enter Try.func125, Try.ntmps125
  go_wp2_with fail
  go_region_held3 (fun w' => w'.cell? ⟨p0, 0, none⟩ = some (.int .i64 3) ∧ w'.cell? ⟨p1, 0, none⟩ = some (.int .i64 a) ∧ w'.cell? ⟨p2, 0, none⟩ = some (.int .i64 b)) (go_keep)
    (first
      | (go_at_call 127; refine (operations_any _).mono ?_; rintro e w' ⟨rfl, rfl⟩)
      | (go_at_call 126; refine (operations_found 3 2 (.func (.func 137) #[] #[]) rfl _ _ ?_).mono ?_; (show (w.heap.push _)[w.heap.size]? = _; simp); rintro e w' ⟨rfl, rfl⟩)
      | (go_at_call 137; refine (cl56 _ _ _).mono ?_; rintro e w' ⟨rfl, rfl⟩))
  go_wp2
  go_ret
  exact ⟨rfl, ((Below.refl _ _).alloc (Nat.le_refl _) _).drew⟩

set_option maxHeartbeats 400000 in
theorem reckon1_4 (a b : Int) (p0 p1 p2 : Nat) (w : World) (h0 : w.cell? ⟨p0, 0, none⟩ = some (.int .i64 4)) (h1 : w.cell? ⟨p1, 0, none⟩ = some (.int .i64 a)) (h2 : w.cell? ⟨p2, 0, none⟩ = some (.int .i64 b)) :
    Calls Try.prog 125 #[.pointer (some ⟨p0, 0, none⟩), .pointer (some ⟨p1, 0, none⟩), .pointer (some ⟨p2, 0, none⟩)] w fun e w' => e = .returned (.int .i64 (wrap64 (a * b))) ∧ Below w.heap.size w w' := by
  have e0 := World.new_ne w _ h0
  have e1 := World.new_ne w _ h1
  have e2 := World.new_ne w _ h2
  go_enter Try.func125, Try.ntmps125
  go_wp2_with fail
  go_region_held3 (fun w' => w'.cell? ⟨p0, 0, none⟩ = some (.int .i64 4) ∧ w'.cell? ⟨p1, 0, none⟩ = some (.int .i64 a) ∧ w'.cell? ⟨p2, 0, none⟩ = some (.int .i64 b)) (go_keep)
    (first
      | (go_at_call 127; refine (operations_any _).mono ?_; rintro e w' ⟨rfl, rfl⟩)
      | (go_at_call 126; refine (operations_found 4 3 (.func (.func 138) #[] #[]) rfl _ _ ?_).mono ?_; (show (w.heap.push _)[w.heap.size]? = _; simp); rintro e w' ⟨rfl, rfl⟩)
      | (go_at_call 138; refine (cl57 _ _ _).mono ?_; rintro e w' ⟨rfl, rfl⟩))
  go_wp2
  go_ret
  exact ⟨rfl, ((Below.refl _ _).alloc (Nat.le_refl _) _).drew⟩

set_option maxHeartbeats 400000 in
theorem reckon1_5 (a b : Int) (p0 p1 p2 : Nat) (w : World) (h0 : w.cell? ⟨p0, 0, none⟩ = some (.int .i64 5)) (h1 : w.cell? ⟨p1, 0, none⟩ = some (.int .i64 a)) (h2 : w.cell? ⟨p2, 0, none⟩ = some (.int .i64 b)) :
    Calls Try.prog 125 #[.pointer (some ⟨p0, 0, none⟩), .pointer (some ⟨p1, 0, none⟩), .pointer (some ⟨p2, 0, none⟩)] w fun e w' => e = .returned (.int .i64 (lesser a b)) ∧ Below w.heap.size w w' := by
  have e0 := World.new_ne w _ h0
  have e1 := World.new_ne w _ h1
  have e2 := World.new_ne w _ h2
  go_enter Try.func125, Try.ntmps125
  go_wp2_with fail
  go_region_held3 (fun w' => w'.cell? ⟨p0, 0, none⟩ = some (.int .i64 5) ∧ w'.cell? ⟨p1, 0, none⟩ = some (.int .i64 a) ∧ w'.cell? ⟨p2, 0, none⟩ = some (.int .i64 b)) (go_keep)
    (first
      | (go_at_call 127; refine (operations_any _).mono ?_; rintro e w' ⟨rfl, rfl⟩)
      | (go_at_call 126; refine (operations_found 5 4 (.func (.func 139) #[] #[]) rfl _ _ ?_).mono ?_; (show (w.heap.push _)[w.heap.size]? = _; simp); rintro e w' ⟨rfl, rfl⟩)
      | (go_at_call 139; refine (cl58 _ _ _).mono ?_; rintro e w' ⟨rfl, rfl⟩))
  go_wp2
  go_ret
  exact ⟨rfl, ((Below.refl _ _).alloc (Nat.le_refl _) _).drew⟩

set_option maxHeartbeats 400000 in
theorem reckon1_6 (a b : Int) (p0 p1 p2 : Nat) (w : World) (h0 : w.cell? ⟨p0, 0, none⟩ = some (.int .i64 6)) (h1 : w.cell? ⟨p1, 0, none⟩ = some (.int .i64 a)) (h2 : w.cell? ⟨p2, 0, none⟩ = some (.int .i64 b)) :
    Calls Try.prog 125 #[.pointer (some ⟨p0, 0, none⟩), .pointer (some ⟨p1, 0, none⟩), .pointer (some ⟨p2, 0, none⟩)] w fun e w' => e = .returned (.int .i64 (greater a b)) ∧ Below w.heap.size w w' := by
  have e0 := World.new_ne w _ h0
  have e1 := World.new_ne w _ h1
  have e2 := World.new_ne w _ h2
  go_enter Try.func125, Try.ntmps125
  go_wp2_with fail
  go_region_held3 (fun w' => w'.cell? ⟨p0, 0, none⟩ = some (.int .i64 6) ∧ w'.cell? ⟨p1, 0, none⟩ = some (.int .i64 a) ∧ w'.cell? ⟨p2, 0, none⟩ = some (.int .i64 b)) (go_keep)
    (first
      | (go_at_call 127; refine (operations_any _).mono ?_; rintro e w' ⟨rfl, rfl⟩)
      | (go_at_call 126; refine (operations_found 6 5 (.func (.func 140) #[] #[]) rfl _ _ ?_).mono ?_; (show (w.heap.push _)[w.heap.size]? = _; simp); rintro e w' ⟨rfl, rfl⟩)
      | (go_at_call 140; refine (cl59 _ _ _).mono ?_; rintro e w' ⟨rfl, rfl⟩))
  go_wp2
  go_ret
  exact ⟨rfl, ((Below.refl _ _).alloc (Nat.le_refl _) _).drew⟩

set_option maxHeartbeats 400000 in
theorem reckon1_none (op a b : Int) (hf : Instr.findNow (.int .i64) (.int .i64 op) opsMap.toList 0 = some none) (p0 p1 p2 : Nat) (w : World) (h0 : w.cell? ⟨p0, 0, none⟩ = some (.int .i64 op)) (h1 : w.cell? ⟨p1, 0, none⟩ = some (.int .i64 a)) (h2 : w.cell? ⟨p2, 0, none⟩ = some (.int .i64 b)) :
    Calls Try.prog 125 #[.pointer (some ⟨p0, 0, none⟩), .pointer (some ⟨p1, 0, none⟩), .pointer (some ⟨p2, 0, none⟩)] w fun e w' => e = .panicked [{ v := .iface 25 (.int .i64 4), recovered := false }] ∧ Below w.heap.size w w' := by
  have Hf : Hid (Instr.findNow (.int .i64) (.int .i64 op) opsMap.toList 0 = some none) := hf
  clear hf
  have e0 := World.new_ne w _ h0
  have e1 := World.new_ne w _ h1
  have e2 := World.new_ne w _ h2
  go_enter Try.func125, Try.ntmps125
  go_wp2_with fail
  go_region_held (fun w' => w'.cell? ⟨p0, 0, none⟩ = some (.int .i64 op) ∧ w'.cell? ⟨p1, 0, none⟩ = some (.int .i64 a) ∧ w'.cell? ⟨p2, 0, none⟩ = some (.int .i64 b)) (go_keep)
    (first
      | (go_at_call 127; refine (operations_any _).mono ?_; rintro e w' ⟨rfl, rfl⟩)
      | (go_at_call 126; refine (panic_or (operations_none op Hf.out _ _ ?_) (.func (.func 135) #[] #[])).mono ?_; (show (w.heap.push _)[w.heap.size]? = _; simp); rintro e w' (⟨rfl, rfl⟩ | ⟨hF, rfl, rfl⟩); exact ⟨rfl, rfl, (((Below.refl _ _).alloc (Nat.le_refl _) _).drew.alloc (by simp) _)⟩)
      | (go_at_call 135; refine (cl54 _ _ _).mono ?_; rintro e w' ⟨rfl, rfl⟩))
  exact (‹Hid False› : Hid False).out.elim

set_option maxHeartbeats 400000 in
theorem holds1_1 (a b : Int) (p0 p1 p2 : Nat) (w : World) (h0 : w.cell? ⟨p0, 0, none⟩ = some (.int .i64 1)) (h1 : w.cell? ⟨p1, 0, none⟩ = some (.int .i64 a)) (h2 : w.cell? ⟨p2, 0, none⟩ = some (.int .i64 b)) :
    Calls Try.prog 122 #[.pointer (some ⟨p0, 0, none⟩), .pointer (some ⟨p1, 0, none⟩), .pointer (some ⟨p2, 0, none⟩)] w fun e w' => e = .returned (.bool (a == b)) ∧ Below w.heap.size w w' := by
  have e0 := World.new_ne w _ h0
  have e1 := World.new_ne w _ h1
  have e2 := World.new_ne w _ h2
  go_enter Try.func122, Try.ntmps122
  go_wp2_with fail
  go_region_held3 (fun w' => w'.cell? ⟨p0, 0, none⟩ = some (.int .i64 1) ∧ w'.cell? ⟨p1, 0, none⟩ = some (.int .i64 a) ∧ w'.cell? ⟨p2, 0, none⟩ = some (.int .i64 b)) (go_keep)
    (first
      | (go_at_call 124; refine (comparisons_any _).mono ?_; rintro e w' ⟨rfl, rfl⟩)
      | (go_at_call 123; refine (comparisons_found 1 0 (.func (.func 131) #[] #[]) rfl _ _ ?_).mono ?_; (show (w.heap.push _)[w.heap.size]? = _; simp); rintro e w' ⟨rfl, rfl⟩)
      | (go_at_call 131; refine (cl61 _ _ _).mono ?_; rintro e w' ⟨rfl, rfl⟩))
  go_wp2
  go_ret
  exact ⟨rfl, ((Below.refl _ _).alloc (Nat.le_refl _) _).drew⟩

set_option maxHeartbeats 400000 in
theorem holds1_2 (a b : Int) (p0 p1 p2 : Nat) (w : World) (h0 : w.cell? ⟨p0, 0, none⟩ = some (.int .i64 2)) (h1 : w.cell? ⟨p1, 0, none⟩ = some (.int .i64 a)) (h2 : w.cell? ⟨p2, 0, none⟩ = some (.int .i64 b)) :
    Calls Try.prog 122 #[.pointer (some ⟨p0, 0, none⟩), .pointer (some ⟨p1, 0, none⟩), .pointer (some ⟨p2, 0, none⟩)] w fun e w' => e = .returned (.bool (a != b)) ∧ Below w.heap.size w w' := by
  have e0 := World.new_ne w _ h0
  have e1 := World.new_ne w _ h1
  have e2 := World.new_ne w _ h2
  go_enter Try.func122, Try.ntmps122
  go_wp2_with fail
  go_region_held3 (fun w' => w'.cell? ⟨p0, 0, none⟩ = some (.int .i64 2) ∧ w'.cell? ⟨p1, 0, none⟩ = some (.int .i64 a) ∧ w'.cell? ⟨p2, 0, none⟩ = some (.int .i64 b)) (go_keep)
    (first
      | (go_at_call 124; refine (comparisons_any _).mono ?_; rintro e w' ⟨rfl, rfl⟩)
      | (go_at_call 123; refine (comparisons_found 2 1 (.func (.func 132) #[] #[]) rfl _ _ ?_).mono ?_; (show (w.heap.push _)[w.heap.size]? = _; simp); rintro e w' ⟨rfl, rfl⟩)
      | (go_at_call 132; refine (cl62 _ _ _).mono ?_; rintro e w' ⟨rfl, rfl⟩))
  go_wp2
  go_ret
  exact ⟨rfl, ((Below.refl _ _).alloc (Nat.le_refl _) _).drew⟩

set_option maxHeartbeats 400000 in
theorem holds1_3 (a b : Int) (p0 p1 p2 : Nat) (w : World) (h0 : w.cell? ⟨p0, 0, none⟩ = some (.int .i64 3)) (h1 : w.cell? ⟨p1, 0, none⟩ = some (.int .i64 a)) (h2 : w.cell? ⟨p2, 0, none⟩ = some (.int .i64 b)) :
    Calls Try.prog 122 #[.pointer (some ⟨p0, 0, none⟩), .pointer (some ⟨p1, 0, none⟩), .pointer (some ⟨p2, 0, none⟩)] w fun e w' => e = .returned (.bool (decide (a < b))) ∧ Below w.heap.size w w' := by
  have e0 := World.new_ne w _ h0
  have e1 := World.new_ne w _ h1
  have e2 := World.new_ne w _ h2
  go_enter Try.func122, Try.ntmps122
  go_wp2_with fail
  go_region_held3 (fun w' => w'.cell? ⟨p0, 0, none⟩ = some (.int .i64 3) ∧ w'.cell? ⟨p1, 0, none⟩ = some (.int .i64 a) ∧ w'.cell? ⟨p2, 0, none⟩ = some (.int .i64 b)) (go_keep)
    (first
      | (go_at_call 124; refine (comparisons_any _).mono ?_; rintro e w' ⟨rfl, rfl⟩)
      | (go_at_call 123; refine (comparisons_found 3 2 (.func (.func 133) #[] #[]) rfl _ _ ?_).mono ?_; (show (w.heap.push _)[w.heap.size]? = _; simp); rintro e w' ⟨rfl, rfl⟩)
      | (go_at_call 133; refine (cl63 _ _ _).mono ?_; rintro e w' ⟨rfl, rfl⟩))
  go_wp2
  go_ret
  exact ⟨rfl, ((Below.refl _ _).alloc (Nat.le_refl _) _).drew⟩

set_option maxHeartbeats 400000 in
theorem holds1_4 (a b : Int) (p0 p1 p2 : Nat) (w : World) (h0 : w.cell? ⟨p0, 0, none⟩ = some (.int .i64 4)) (h1 : w.cell? ⟨p1, 0, none⟩ = some (.int .i64 a)) (h2 : w.cell? ⟨p2, 0, none⟩ = some (.int .i64 b)) :
    Calls Try.prog 122 #[.pointer (some ⟨p0, 0, none⟩), .pointer (some ⟨p1, 0, none⟩), .pointer (some ⟨p2, 0, none⟩)] w fun e w' => e = .returned (.bool (decide (a ≤ b))) ∧ Below w.heap.size w w' := by
  have e0 := World.new_ne w _ h0
  have e1 := World.new_ne w _ h1
  have e2 := World.new_ne w _ h2
  go_enter Try.func122, Try.ntmps122
  go_wp2_with fail
  go_region_held3 (fun w' => w'.cell? ⟨p0, 0, none⟩ = some (.int .i64 4) ∧ w'.cell? ⟨p1, 0, none⟩ = some (.int .i64 a) ∧ w'.cell? ⟨p2, 0, none⟩ = some (.int .i64 b)) (go_keep)
    (first
      | (go_at_call 124; refine (comparisons_any _).mono ?_; rintro e w' ⟨rfl, rfl⟩)
      | (go_at_call 123; refine (comparisons_found 4 3 (.func (.func 134) #[] #[]) rfl _ _ ?_).mono ?_; (show (w.heap.push _)[w.heap.size]? = _; simp); rintro e w' ⟨rfl, rfl⟩)
      | (go_at_call 134; refine (cl64 _ _ _).mono ?_; rintro e w' ⟨rfl, rfl⟩))
  go_wp2
  go_ret
  exact ⟨rfl, ((Below.refl _ _).alloc (Nat.le_refl _) _).drew⟩

set_option maxHeartbeats 400000 in
theorem holds1_none (op a b : Int) (hf : Instr.findNow (.int .i64) (.int .i64 op) cmpMap.toList 0 = some none) (p0 p1 p2 : Nat) (w : World) (h0 : w.cell? ⟨p0, 0, none⟩ = some (.int .i64 op)) (h1 : w.cell? ⟨p1, 0, none⟩ = some (.int .i64 a)) (h2 : w.cell? ⟨p2, 0, none⟩ = some (.int .i64 b)) :
    Calls Try.prog 122 #[.pointer (some ⟨p0, 0, none⟩), .pointer (some ⟨p1, 0, none⟩), .pointer (some ⟨p2, 0, none⟩)] w fun e w' => e = .panicked [{ v := .iface 25 (.int .i64 4), recovered := false }] ∧ Below w.heap.size w w' := by
  have Hf : Hid (Instr.findNow (.int .i64) (.int .i64 op) cmpMap.toList 0 = some none) := hf
  clear hf
  have e0 := World.new_ne w _ h0
  have e1 := World.new_ne w _ h1
  have e2 := World.new_ne w _ h2
  go_enter Try.func122, Try.ntmps122
  go_wp2_with fail
  go_region_held (fun w' => w'.cell? ⟨p0, 0, none⟩ = some (.int .i64 op) ∧ w'.cell? ⟨p1, 0, none⟩ = some (.int .i64 a) ∧ w'.cell? ⟨p2, 0, none⟩ = some (.int .i64 b)) (go_keep)
    (first
      | (go_at_call 124; refine (comparisons_any _).mono ?_; rintro e w' ⟨rfl, rfl⟩)
      | (go_at_call 123; refine (panic_or (comparisons_none op Hf.out _ _ ?_) (.func (.func 131) #[] #[])).mono ?_; (show (w.heap.push _)[w.heap.size]? = _; simp); rintro e w' (⟨rfl, rfl⟩ | ⟨hF, rfl, rfl⟩); exact ⟨rfl, rfl, (((Below.refl _ _).alloc (Nat.le_refl _) _).drew.alloc (by simp) _)⟩)
      | (go_at_call 131; refine (cl61 _ _ _).mono ?_; rintro e w' ⟨rfl, rfl⟩))
  exact (‹Hid False› : Hid False).out.elim

end Go.Proofs.Ytcgpkonfneofdaa
