/-
  
  Conditions: those that each theorem states.
-/
import Derived.Test.YtebjkmknhpgemaaGreatUBase
namespace Go.Proofs.YtebjkmknhpgemaaGreat
open Go.RowKit
set_option maxHeartbeats 400000 in
theorem reckon1_1 (a b : Int) (p0 p1 p2 : Nat) (w : World) (h0 : w.cell? ⟨p0, 0, none⟩ = some (.int .i64 1)) (h1 : w.cell? ⟨p1, 0, none⟩ = some (.int .i64 a)) (h2 : w.cell? ⟨p2, 0, none⟩ = some (.int .i64 b)) :
  Calls Tryz.prog 167 #[.pointer (some ⟨p0, 0, none⟩), .pointer (some ⟨p1, 0, none⟩), .pointer (some ⟨p2, 0, none⟩)] w fun e w' => e = .returned (.int .i64 a) ∧ Below w.heap.size w w' := by
 have e0 := World.new_ne w _ h0
 have e1 := World.new_ne w _ h1
 have e2 := World.new_ne w _ h2
 go_enter Tryz.func167, Tryz.ntmps167
 go_wp2_with fail
 go_region_held3 (fun w' => w'.cell? ⟨p0, 0, none⟩ = some (.int .i64 1) ∧ w'.cell? ⟨p1, 0, none⟩ = some (.int .i64 a) ∧ w'.cell? ⟨p2, 0, none⟩ = some (.int .i64 b)) (go_keep)
  (first
   | (go_at_call 169; refine (cO _).mono ?_; rintro e w' ⟨rfl, rfl⟩)
   | (go_at_call 168; refine (cK 1 0 (.func (.func 177) #[] #[]) rfl _ _ ?_).mono ?_; (show (w.heap.push _)[w.heap.size]? = _; simp); rintro e w' ⟨rfl, rfl⟩)
   | (go_at_call 177; refine (cl54 _ _ _).mono ?_; rintro e w' ⟨rfl, rfl⟩))
 go_wp2
 go_ret
 exact ⟨rfl, ((Below.refl _ _).alloc (Nat.le_refl _) _).drew⟩
set_option maxHeartbeats 400000 in
theorem reckon1_2 (a b : Int) (p0 p1 p2 : Nat) (w : World) (h0 : w.cell? ⟨p0, 0, none⟩ = some (.int .i64 2)) (h1 : w.cell? ⟨p1, 0, none⟩ = some (.int .i64 a)) (h2 : w.cell? ⟨p2, 0, none⟩ = some (.int .i64 b)) :
  Calls Tryz.prog 167 #[.pointer (some ⟨p0, 0, none⟩), .pointer (some ⟨p1, 0, none⟩), .pointer (some ⟨p2, 0, none⟩)] w fun e w' => e = .returned (.int .i64 (wrap64 (a + b))) ∧ Below w.heap.size w w' := by
 have e0 := World.new_ne w _ h0
 have e1 := World.new_ne w _ h1
 have e2 := World.new_ne w _ h2
 go_enter Tryz.func167, Tryz.ntmps167
 go_wp2_with fail
 go_region_held3 (fun w' => w'.cell? ⟨p0, 0, none⟩ = some (.int .i64 2) ∧ w'.cell? ⟨p1, 0, none⟩ = some (.int .i64 a) ∧ w'.cell? ⟨p2, 0, none⟩ = some (.int .i64 b)) (go_keep)
  (first
   | (go_at_call 169; refine (cO _).mono ?_; rintro e w' ⟨rfl, rfl⟩)
   | (go_at_call 168; refine (cK 2 1 (.func (.func 178) #[] #[]) rfl _ _ ?_).mono ?_; (show (w.heap.push _)[w.heap.size]? = _; simp); rintro e w' ⟨rfl, rfl⟩)
   | (go_at_call 178; refine (cl55 _ _ _).mono ?_; rintro e w' ⟨rfl, rfl⟩))
 go_wp2
 go_ret
 exact ⟨rfl, ((Below.refl _ _).alloc (Nat.le_refl _) _).drew⟩
set_option maxHeartbeats 400000 in
theorem reckon1_3 (a b : Int) (p0 p1 p2 : Nat) (w : World) (h0 : w.cell? ⟨p0, 0, none⟩ = some (.int .i64 3)) (h1 : w.cell? ⟨p1, 0, none⟩ = some (.int .i64 a)) (h2 : w.cell? ⟨p2, 0, none⟩ = some (.int .i64 b)) :
  Calls Tryz.prog 167 #[.pointer (some ⟨p0, 0, none⟩), .pointer (some ⟨p1, 0, none⟩), .pointer (some ⟨p2, 0, none⟩)] w fun e w' => e = .returned (.int .i64 (wrap64 (a - b))) ∧ Below w.heap.size w w' := by
 have e0 := World.new_ne w _ h0
 have e1 := World.new_ne w _ h1
 have e2 := World.new_ne w _ h2
 go_enter Tryz.func167, Tryz.ntmps167
 go_wp2_with fail
 go_region_held3 (fun w' => w'.cell? ⟨p0, 0, none⟩ = some (.int .i64 3) ∧ w'.cell? ⟨p1, 0, none⟩ = some (.int .i64 a) ∧ w'.cell? ⟨p2, 0, none⟩ = some (.int .i64 b)) (go_keep)
  (first
   | (go_at_call 169; refine (cO _).mono ?_; rintro e w' ⟨rfl, rfl⟩)
   | (go_at_call 168; refine (cK 3 2 (.func (.func 179) #[] #[]) rfl _ _ ?_).mono ?_; (show (w.heap.push _)[w.heap.size]? = _; simp); rintro e w' ⟨rfl, rfl⟩)
   | (go_at_call 179; refine (cl56 _ _ _).mono ?_; rintro e w' ⟨rfl, rfl⟩))
 go_wp2
 go_ret
 exact ⟨rfl, ((Below.refl _ _).alloc (Nat.le_refl _) _).drew⟩
set_option maxHeartbeats 400000 in
theorem reckon1_4 (a b : Int) (p0 p1 p2 : Nat) (w : World) (h0 : w.cell? ⟨p0, 0, none⟩ = some (.int .i64 4)) (h1 : w.cell? ⟨p1, 0, none⟩ = some (.int .i64 a)) (h2 : w.cell? ⟨p2, 0, none⟩ = some (.int .i64 b)) :
  Calls Tryz.prog 167 #[.pointer (some ⟨p0, 0, none⟩), .pointer (some ⟨p1, 0, none⟩), .pointer (some ⟨p2, 0, none⟩)] w fun e w' => e = .returned (.int .i64 (wrap64 (a * b))) ∧ Below w.heap.size w w' := by
 have e0 := World.new_ne w _ h0
 have e1 := World.new_ne w _ h1
 have e2 := World.new_ne w _ h2
 go_enter Tryz.func167, Tryz.ntmps167
 go_wp2_with fail
 go_region_held3 (fun w' => w'.cell? ⟨p0, 0, none⟩ = some (.int .i64 4) ∧ w'.cell? ⟨p1, 0, none⟩ = some (.int .i64 a) ∧ w'.cell? ⟨p2, 0, none⟩ = some (.int .i64 b)) (go_keep)
  (first
   | (go_at_call 169; refine (cO _).mono ?_; rintro e w' ⟨rfl, rfl⟩)
   | (go_at_call 168; refine (cK 4 3 (.func (.func 180) #[] #[]) rfl _ _ ?_).mono ?_; (show (w.heap.push _)[w.heap.size]? = _; simp); rintro e w' ⟨rfl, rfl⟩)
   | (go_at_call 180; refine (cl57 _ _ _).mono ?_; rintro e w' ⟨rfl, rfl⟩))
 go_wp2
 go_ret
 exact ⟨rfl, ((Below.refl _ _).alloc (Nat.le_refl _) _).drew⟩
set_option maxHeartbeats 400000 in
theorem reckon1_5 (a b : Int) (p0 p1 p2 : Nat) (w : World) (h0 : w.cell? ⟨p0, 0, none⟩ = some (.int .i64 5)) (h1 : w.cell? ⟨p1, 0, none⟩ = some (.int .i64 a)) (h2 : w.cell? ⟨p2, 0, none⟩ = some (.int .i64 b)) :
  Calls Tryz.prog 167 #[.pointer (some ⟨p0, 0, none⟩), .pointer (some ⟨p1, 0, none⟩), .pointer (some ⟨p2, 0, none⟩)] w fun e w' => e = .returned (.int .i64 (mE a b)) ∧ Below w.heap.size w w' := by
 have e0 := World.new_ne w _ h0
 have e1 := World.new_ne w _ h1
 have e2 := World.new_ne w _ h2
 go_enter Tryz.func167, Tryz.ntmps167
 go_wp2_with fail
 go_region_held3 (fun w' => w'.cell? ⟨p0, 0, none⟩ = some (.int .i64 5) ∧ w'.cell? ⟨p1, 0, none⟩ = some (.int .i64 a) ∧ w'.cell? ⟨p2, 0, none⟩ = some (.int .i64 b)) (go_keep)
  (first
   | (go_at_call 169; refine (cO _).mono ?_; rintro e w' ⟨rfl, rfl⟩)
   | (go_at_call 168; refine (cK 5 4 (.func (.func 181) #[] #[]) rfl _ _ ?_).mono ?_; (show (w.heap.push _)[w.heap.size]? = _; simp); rintro e w' ⟨rfl, rfl⟩)
   | (go_at_call 181; refine (cl58 _ _ _).mono ?_; rintro e w' ⟨rfl, rfl⟩))
 go_wp2
 go_ret
 exact ⟨rfl, ((Below.refl _ _).alloc (Nat.le_refl _) _).drew⟩
set_option maxHeartbeats 400000 in
theorem reckon1_6 (a b : Int) (p0 p1 p2 : Nat) (w : World) (h0 : w.cell? ⟨p0, 0, none⟩ = some (.int .i64 6)) (h1 : w.cell? ⟨p1, 0, none⟩ = some (.int .i64 a)) (h2 : w.cell? ⟨p2, 0, none⟩ = some (.int .i64 b)) :
  Calls Tryz.prog 167 #[.pointer (some ⟨p0, 0, none⟩), .pointer (some ⟨p1, 0, none⟩), .pointer (some ⟨p2, 0, none⟩)] w fun e w' => e = .returned (.int .i64 (jS a b)) ∧ Below w.heap.size w w' := by
 have e0 := World.new_ne w _ h0
 have e1 := World.new_ne w _ h1
 have e2 := World.new_ne w _ h2
 go_enter Tryz.func167, Tryz.ntmps167
 go_wp2_with fail
 go_region_held3 (fun w' => w'.cell? ⟨p0, 0, none⟩ = some (.int .i64 6) ∧ w'.cell? ⟨p1, 0, none⟩ = some (.int .i64 a) ∧ w'.cell? ⟨p2, 0, none⟩ = some (.int .i64 b)) (go_keep)
  (first
   | (go_at_call 169; refine (cO _).mono ?_; rintro e w' ⟨rfl, rfl⟩)
   | (go_at_call 168; refine (cK 6 5 (.func (.func 182) #[] #[]) rfl _ _ ?_).mono ?_; (show (w.heap.push _)[w.heap.size]? = _; simp); rintro e w' ⟨rfl, rfl⟩)
   | (go_at_call 182; refine (cl59 _ _ _).mono ?_; rintro e w' ⟨rfl, rfl⟩))
 go_wp2
 go_ret
 exact ⟨rfl, ((Below.refl _ _).alloc (Nat.le_refl _) _).drew⟩
set_option maxHeartbeats 400000 in
theorem qU (op a b : Int) (hf : Instr.findNow (.int .i64) (.int .i64 op) opsMap.toList 0 = some none) (p0 p1 p2 : Nat) (w : World) (h0 : w.cell? ⟨p0, 0, none⟩ = some (.int .i64 op)) (h1 : w.cell? ⟨p1, 0, none⟩ = some (.int .i64 a)) (h2 : w.cell? ⟨p2, 0, none⟩ = some (.int .i64 b)) :
  Calls Tryz.prog 167 #[.pointer (some ⟨p0, 0, none⟩), .pointer (some ⟨p1, 0, none⟩), .pointer (some ⟨p2, 0, none⟩)] w fun e w' => e = .panicked [{ v := .iface 30 (.int .i64 4), recovered := false }] ∧ Below w.heap.size w w' := by
 have Hf : Hid (Instr.findNow (.int .i64) (.int .i64 op) opsMap.toList 0 = some none) := hf
 clear hf
 have e0 := World.new_ne w _ h0
 have e1 := World.new_ne w _ h1
 have e2 := World.new_ne w _ h2
 go_enter Tryz.func167, Tryz.ntmps167
 go_wp2_with fail
 go_region_held (fun w' => w'.cell? ⟨p0, 0, none⟩ = some (.int .i64 op) ∧ w'.cell? ⟨p1, 0, none⟩ = some (.int .i64 a) ∧ w'.cell? ⟨p2, 0, none⟩ = some (.int .i64 b)) (go_keep)
  (first
   | (go_at_call 169; refine (cO _).mono ?_; rintro e w' ⟨rfl, rfl⟩)
   | (go_at_call 168; refine (fR (nG op Hf.out _ _ ?_) (.func (.func 177) #[] #[])).mono ?_; (show (w.heap.push _)[w.heap.size]? = _; simp); rintro e w' (⟨rfl, rfl⟩ | ⟨hF, rfl, rfl⟩); exact ⟨rfl, rfl, (((Below.refl _ _).alloc (Nat.le_refl _) _).drew.alloc (by simp) _)⟩)
   | (go_at_call 177; refine (cl54 _ _ _).mono ?_; rintro e w' ⟨rfl, rfl⟩))
 exact (‹Hid False› : Hid False).out.elim
set_option maxHeartbeats 400000 in
theorem holds1_1 (a b : Int) (p0 p1 p2 : Nat) (w : World) (h0 : w.cell? ⟨p0, 0, none⟩ = some (.int .i64 1)) (h1 : w.cell? ⟨p1, 0, none⟩ = some (.int .i64 a)) (h2 : w.cell? ⟨p2, 0, none⟩ = some (.int .i64 b)) :
  Calls Tryz.prog 163 #[.pointer (some ⟨p0, 0, none⟩), .pointer (some ⟨p1, 0, none⟩), .pointer (some ⟨p2, 0, none⟩)] w fun e w' => e = .returned (.bool (a == b)) ∧ Below w.heap.size w w' := by
 have e0 := World.new_ne w _ h0
 have e1 := World.new_ne w _ h1
 have e2 := World.new_ne w _ h2
 go_enter Tryz.func163, Tryz.ntmps163
 go_wp2_with fail
 go_region_held3 (fun w' => w'.cell? ⟨p0, 0, none⟩ = some (.int .i64 1) ∧ w'.cell? ⟨p1, 0, none⟩ = some (.int .i64 a) ∧ w'.cell? ⟨p2, 0, none⟩ = some (.int .i64 b)) (go_keep)
  (first
   | (go_at_call 165; refine (dM _).mono ?_; rintro e w' ⟨rfl, rfl⟩)
   | (go_at_call 164; refine (dR 1 0 (.func (.func 172) #[] #[]) rfl _ _ ?_).mono ?_; (show (w.heap.push _)[w.heap.size]? = _; simp); rintro e w' ⟨rfl, rfl⟩)
   | (go_at_call 172; refine (cl61 _ _ _).mono ?_; rintro e w' ⟨rfl, rfl⟩))
 go_wp2
 go_ret
 exact ⟨rfl, ((Below.refl _ _).alloc (Nat.le_refl _) _).drew⟩
set_option maxHeartbeats 400000 in
theorem holds1_2 (a b : Int) (p0 p1 p2 : Nat) (w : World) (h0 : w.cell? ⟨p0, 0, none⟩ = some (.int .i64 2)) (h1 : w.cell? ⟨p1, 0, none⟩ = some (.int .i64 a)) (h2 : w.cell? ⟨p2, 0, none⟩ = some (.int .i64 b)) :
  Calls Tryz.prog 163 #[.pointer (some ⟨p0, 0, none⟩), .pointer (some ⟨p1, 0, none⟩), .pointer (some ⟨p2, 0, none⟩)] w fun e w' => e = .returned (.bool (a != b)) ∧ Below w.heap.size w w' := by
 have e0 := World.new_ne w _ h0
 have e1 := World.new_ne w _ h1
 have e2 := World.new_ne w _ h2
 go_enter Tryz.func163, Tryz.ntmps163
 go_wp2_with fail
 go_region_held3 (fun w' => w'.cell? ⟨p0, 0, none⟩ = some (.int .i64 2) ∧ w'.cell? ⟨p1, 0, none⟩ = some (.int .i64 a) ∧ w'.cell? ⟨p2, 0, none⟩ = some (.int .i64 b)) (go_keep)
  (first
   | (go_at_call 165; refine (dM _).mono ?_; rintro e w' ⟨rfl, rfl⟩)
   | (go_at_call 164; refine (dR 2 1 (.func (.func 173) #[] #[]) rfl _ _ ?_).mono ?_; (show (w.heap.push _)[w.heap.size]? = _; simp); rintro e w' ⟨rfl, rfl⟩)
   | (go_at_call 173; refine (cl62 _ _ _).mono ?_; rintro e w' ⟨rfl, rfl⟩))
 go_wp2
 go_ret
 exact ⟨rfl, ((Below.refl _ _).alloc (Nat.le_refl _) _).drew⟩
set_option maxHeartbeats 400000 in
theorem holds1_3 (a b : Int) (p0 p1 p2 : Nat) (w : World) (h0 : w.cell? ⟨p0, 0, none⟩ = some (.int .i64 3)) (h1 : w.cell? ⟨p1, 0, none⟩ = some (.int .i64 a)) (h2 : w.cell? ⟨p2, 0, none⟩ = some (.int .i64 b)) :
  Calls Tryz.prog 163 #[.pointer (some ⟨p0, 0, none⟩), .pointer (some ⟨p1, 0, none⟩), .pointer (some ⟨p2, 0, none⟩)] w fun e w' => e = .returned (.bool (decide (a < b))) ∧ Below w.heap.size w w' := by
 have e0 := World.new_ne w _ h0
 have e1 := World.new_ne w _ h1
 have e2 := World.new_ne w _ h2
 go_enter Tryz.func163, Tryz.ntmps163
 go_wp2_with fail
 go_region_held3 (fun w' => w'.cell? ⟨p0, 0, none⟩ = some (.int .i64 3) ∧ w'.cell? ⟨p1, 0, none⟩ = some (.int .i64 a) ∧ w'.cell? ⟨p2, 0, none⟩ = some (.int .i64 b)) (go_keep)
  (first
   | (go_at_call 165; refine (dM _).mono ?_; rintro e w' ⟨rfl, rfl⟩)
   | (go_at_call 164; refine (dR 3 2 (.func (.func 174) #[] #[]) rfl _ _ ?_).mono ?_; (show (w.heap.push _)[w.heap.size]? = _; simp); rintro e w' ⟨rfl, rfl⟩)
   | (go_at_call 174; refine (cl63 _ _ _).mono ?_; rintro e w' ⟨rfl, rfl⟩))
 go_wp2
 go_ret
 exact ⟨rfl, ((Below.refl _ _).alloc (Nat.le_refl _) _).drew⟩
set_option maxHeartbeats 400000 in
theorem holds1_4 (a b : Int) (p0 p1 p2 : Nat) (w : World) (h0 : w.cell? ⟨p0, 0, none⟩ = some (.int .i64 4)) (h1 : w.cell? ⟨p1, 0, none⟩ = some (.int .i64 a)) (h2 : w.cell? ⟨p2, 0, none⟩ = some (.int .i64 b)) :
  Calls Tryz.prog 163 #[.pointer (some ⟨p0, 0, none⟩), .pointer (some ⟨p1, 0, none⟩), .pointer (some ⟨p2, 0, none⟩)] w fun e w' => e = .returned (.bool (decide (a ≤ b))) ∧ Below w.heap.size w w' := by
 have e0 := World.new_ne w _ h0
 have e1 := World.new_ne w _ h1
 have e2 := World.new_ne w _ h2
 go_enter Tryz.func163, Tryz.ntmps163
 go_wp2_with fail
 go_region_held3 (fun w' => w'.cell? ⟨p0, 0, none⟩ = some (.int .i64 4) ∧ w'.cell? ⟨p1, 0, none⟩ = some (.int .i64 a) ∧ w'.cell? ⟨p2, 0, none⟩ = some (.int .i64 b)) (go_keep)
  (first
   | (go_at_call 165; refine (dM _).mono ?_; rintro e w' ⟨rfl, rfl⟩)
   | (go_at_call 164; refine (dR 4 3 (.func (.func 175) #[] #[]) rfl _ _ ?_).mono ?_; (show (w.heap.push _)[w.heap.size]? = _; simp); rintro e w' ⟨rfl, rfl⟩)
   | (go_at_call 175; refine (cl64 _ _ _).mono ?_; rintro e w' ⟨rfl, rfl⟩))
 go_wp2
 go_ret
 exact ⟨rfl, ((Below.refl _ _).alloc (Nat.le_refl _) _).drew⟩
set_option maxHeartbeats 400000 in
theorem holds1_none (op a b : Int) (hf : Instr.findNow (.int .i64) (.int .i64 op) cmpMap.toList 0 = some none) (p0 p1 p2 : Nat) (w : World) (h0 : w.cell? ⟨p0, 0, none⟩ = some (.int .i64 op)) (h1 : w.cell? ⟨p1, 0, none⟩ = some (.int .i64 a)) (h2 : w.cell? ⟨p2, 0, none⟩ = some (.int .i64 b)) :
  Calls Tryz.prog 163 #[.pointer (some ⟨p0, 0, none⟩), .pointer (some ⟨p1, 0, none⟩), .pointer (some ⟨p2, 0, none⟩)] w fun e w' => e = .panicked [{ v := .iface 30 (.int .i64 4), recovered := false }] ∧ Below w.heap.size w w' := by
 have Hf : Hid (Instr.findNow (.int .i64) (.int .i64 op) cmpMap.toList 0 = some none) := hf
 clear hf
 have e0 := World.new_ne w _ h0
 have e1 := World.new_ne w _ h1
 have e2 := World.new_ne w _ h2
 go_enter Tryz.func163, Tryz.ntmps163
 go_wp2_with fail
 go_region_held (fun w' => w'.cell? ⟨p0, 0, none⟩ = some (.int .i64 op) ∧ w'.cell? ⟨p1, 0, none⟩ = some (.int .i64 a) ∧ w'.cell? ⟨p2, 0, none⟩ = some (.int .i64 b)) (go_keep)
  (first
   | (go_at_call 165; refine (dM _).mono ?_; rintro e w' ⟨rfl, rfl⟩)
   | (go_at_call 164; refine (fR (mL op Hf.out _ _ ?_) (.func (.func 172) #[] #[])).mono ?_; (show (w.heap.push _)[w.heap.size]? = _; simp); rintro e w' (⟨rfl, rfl⟩ | ⟨hF, rfl, rfl⟩); exact ⟨rfl, rfl, (((Below.refl _ _).alloc (Nat.le_refl _) _).drew.alloc (by simp) _)⟩)
   | (go_at_call 172; refine (cl61 _ _ _).mono ?_; rintro e w' ⟨rfl, rfl⟩))
 exact (‹Hid False› : Hid False).out.elim
end Go.Proofs.YtebjkmknhpgemaaGreat
