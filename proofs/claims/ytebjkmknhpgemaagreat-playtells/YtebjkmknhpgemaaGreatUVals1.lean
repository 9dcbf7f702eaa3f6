/-
  
  Conditions: those that each theorem states.
-/
import Derived.Test.YtebjkmknhpgemaaGreatUClos
namespace Go.Proofs.YtebjkmknhpgemaaGreat
open Go.RowKit
def eD (op a b : Int) : Int := if op = 1 then a else if op = 2 then wrap64 (a + b) else if op = 3 then wrap64 (a - b) else if op = 4 then wrap64 (a * b) else if op = 5 then mE a b else if op = 6 then jS a b else 0
def cQ (op : Int) : Int := if 1 ≤ op ∧ op ≤ 6 then 0 else 4
def eL (k a b : Int) : Bool := if k = 1 then a == b else if k = 2 then a != b else if k = 3 then decide (a < b) else if k = 4 then decide (a ≤ b) else false
def dH (k : Int) : Int := if 1 ≤ k ∧ k ≤ 4 then 0 else 4
theorem new_cell (w : World) (v : Value) (T : TypeId) : (w.alloc (.cells #[v] T)).cell? ⟨w.heap.size, 0, none⟩ = some v := by simp
theorem box3 (op a b : Int) (w : World) (o : Obj) :
  ((((w.alloc (.cells #[.int .i64 op] 3)).alloc (.cells #[.int .i64 a] 3)).alloc (.cells #[.int .i64 b] 3)).alloc o).cell? ⟨w.heap.size, 0, none⟩ = some (.int .i64 op) ∧ ((((w.alloc (.cells #[.int .i64 op] 3)).alloc (.cells #[.int .i64 a] 3)).alloc (.cells #[.int .i64 b] 3)).alloc o).cell? ⟨w.heap.size + 1, 0, none⟩ = some (.int .i64 a) ∧ ((((w.alloc (.cells #[.int .i64 op] 3)).alloc (.cells #[.int .i64 a] 3)).alloc (.cells #[.int .i64 b] 3)).alloc o).cell? ⟨w.heap.size + 2, 0, none⟩ = some (.int .i64 b) := by
 refine ⟨?_, ?_, ?_⟩
 ·rw [World.cell?_alloc_lt _ _ _ (by simp; omega), World.cell?_alloc_lt _ _ _ (by simp; omega), World.cell?_alloc_lt _ _ _ (by simp)]; simp
 ·rw [World.cell?_alloc_lt _ _ _ (by simp), World.cell?_alloc_lt _ _ _ (by simp)]
  simp
 ·rw [World.cell?_alloc_lt _ _ _ (by simp)]
  have := new_cell ((w.alloc (.cells #[.int .i64 op] 3)).alloc (.cells #[.int .i64 a] 3)) (.int .i64 b) 3
  simpa using this
theorem up3 {w w1 : World} {x y z : Obj} (hb : Below (((w.alloc x).alloc y).alloc z).heap.size (((w.alloc x).alloc y).alloc z) w1) : Below w.heap.size w w1 :=
 ((((Below.refl _ _).alloc (Nat.le_refl _) x).alloc (by simp) y).alloc (by simp; omega) z).trans (hb.mono (by simp; omega))
theorem fI (op a b : Int) (v : Int) (e : Int) (w : World)
  (h : Calls Tryz.prog 166 #[.func (.func 167) #[] #[.pointer (some ⟨w.heap.size, 0, none⟩), .pointer (some ⟨w.heap.size + 1, 0, none⟩), .pointer (some ⟨w.heap.size + 2, 0, none⟩)]] (((w.alloc (.cells #[.int .i64 op] 3)).alloc (.cells #[.int .i64 a] 3)).alloc (.cells #[.int .i64 b] 3)) fun e' w' => e' = .returned (.tuple #[.int .i64 v, .int .i64 e]) ∧ Below (((w.alloc (.cells #[.int .i64 op] 3)).alloc (.cells #[.int .i64 a] 3)).alloc (.cells #[.int .i64 b] 3)).heap.size (((w.alloc (.cells #[.int .i64 op] 3)).alloc (.cells #[.int .i64 a] 3)).alloc (.cells #[.int .i64 b] 3)) w') :
  Calls Tryz.prog 158 #[.int .i64 op, .int .i64 a, .int .i64 b] w fun e' w' => e' = .returned (.tuple #[.int .i64 v, .int .i64 e]) ∧ Below w.heap.size w w' := by
 have hmf : ∀ (fn : Fn) (first cap : Array Value) (w : World), (Instr.makeFunc fn first cap).run Tryz.prog w = .ok (.func fn first cap) w := fun _ _ _ _ => rfl
 have H : Hid (Calls Tryz.prog 166 #[.func (.func 167) #[] #[.pointer (some ⟨w.heap.size, 0, none⟩), .pointer (some ⟨w.heap.size + 1, 0, none⟩), .pointer (some ⟨w.heap.size + 2, 0, none⟩)]] (((w.alloc (.cells #[.int .i64 op] 3)).alloc (.cells #[.int .i64 a] 3)).alloc (.cells #[.int .i64 b] 3)) fun e' w' => e' = .returned (.tuple #[.int .i64 v, .int .i64 e]) ∧ Below (((w.alloc (.cells #[.int .i64 op] 3)).alloc (.cells #[.int .i64 a] 3)).alloc (.cells #[.int .i64 b] 3)).heap.size (((w.alloc (.cells #[.int .i64 op] 3)).alloc (.cells #[.int .i64 a] 3)).alloc (.cells #[.int .i64 b] 3)) w') := h
 clear h
 go_enter Tryz.func158, Tryz.ntmps158
 go_wp2_with fail
 refine H.out.mono ?_
 clear H
 rintro e w1 ⟨rfl, hb⟩
 have Hb := up3 hb
 clear hb
 go_wp2
 go_ret2
 exact ⟨rfl, Hb⟩
theorem jH (op a b : Int) (v : Bool) (e : Int) (w : World)
  (h : Calls Tryz.prog 47 #[.func (.func 163) #[] #[.pointer (some ⟨w.heap.size, 0, none⟩), .pointer (some ⟨w.heap.size + 1, 0, none⟩), .pointer (some ⟨w.heap.size + 2, 0, none⟩)]] (((w.alloc (.cells #[.int .i64 op] 3)).alloc (.cells #[.int .i64 a] 3)).alloc (.cells #[.int .i64 b] 3)) fun e' w' => e' = .returned (.tuple #[.bool v, .int .i64 e]) ∧ Below (((w.alloc (.cells #[.int .i64 op] 3)).alloc (.cells #[.int .i64 a] 3)).alloc (.cells #[.int .i64 b] 3)).heap.size (((w.alloc (.cells #[.int .i64 op] 3)).alloc (.cells #[.int .i64 a] 3)).alloc (.cells #[.int .i64 b] 3)) w') :
  Calls Tryz.prog 156 #[.int .i64 op, .int .i64 a, .int .i64 b] w fun e' w' => e' = .returned (.tuple #[.bool v, .int .i64 e]) ∧ Below w.heap.size w w' := by
 have hmf : ∀ (fn : Fn) (first cap : Array Value) (w : World), (Instr.makeFunc fn first cap).run Tryz.prog w = .ok (.func fn first cap) w := fun _ _ _ _ => rfl
 have H : Hid (Calls Tryz.prog 47 #[.func (.func 163) #[] #[.pointer (some ⟨w.heap.size, 0, none⟩), .pointer (some ⟨w.heap.size + 1, 0, none⟩), .pointer (some ⟨w.heap.size + 2, 0, none⟩)]] (((w.alloc (.cells #[.int .i64 op] 3)).alloc (.cells #[.int .i64 a] 3)).alloc (.cells #[.int .i64 b] 3)) fun e' w' => e' = .returned (.tuple #[.bool v, .int .i64 e]) ∧ Below (((w.alloc (.cells #[.int .i64 op] 3)).alloc (.cells #[.int .i64 a] 3)).alloc (.cells #[.int .i64 b] 3)).heap.size (((w.alloc (.cells #[.int .i64 op] 3)).alloc (.cells #[.int .i64 a] 3)).alloc (.cells #[.int .i64 b] 3)) w') := h
 clear h
 go_enter Tryz.func156, Tryz.ntmps156
 go_wp2_with fail
 refine H.out.mono ?_
 clear H
 rintro e w1 ⟨rfl, hb⟩
 have Hb := up3 hb
 clear hb
 go_wp2
 go_ret2
 exact ⟨rfl, Hb⟩
theorem kG (op a b : Int) (w : World) :
  Calls Tryz.prog 158 #[.int .i64 op, .int .i64 a, .int .i64 b] w fun e' w' => e' = .returned (.tuple #[.int .i64 (eD op a b), .int .i64 (cQ op)]) ∧ Below w.heap.size w w' := by
 have hbx := box3 op a b w (.cells #[.int .i64 0] 30)
 by_cases h1 : op = 1
 ·subst h1
  exact fI 1 a b _ _ w (eC _ _ _ (((reckon1_1 a b _ _ _ _ hbx.1 hbx.2.1 hbx.2.2)).mono (fun e w' h => ⟨h.1, by simpa using h.2⟩)))
 by_cases h2 : op = 2
 ·subst h2
  exact fI 2 a b _ _ w (eC _ _ _ (((reckon1_2 a b _ _ _ _ hbx.1 hbx.2.1 hbx.2.2)).mono (fun e w' h => ⟨h.1, by simpa using h.2⟩)))
 by_cases h3 : op = 3
 ·subst h3
  exact fI 3 a b _ _ w (eC _ _ _ (((reckon1_3 a b _ _ _ _ hbx.1 hbx.2.1 hbx.2.2)).mono (fun e w' h => ⟨h.1, by simpa using h.2⟩)))
 by_cases h4 : op = 4
 ·subst h4
  exact fI 4 a b _ _ w (eC _ _ _ (((reckon1_4 a b _ _ _ _ hbx.1 hbx.2.1 hbx.2.2)).mono (fun e w' h => ⟨h.1, by simpa using h.2⟩)))
 by_cases h5 : op = 5
 ·subst h5
  exact fI 5 a b _ _ w (eC _ _ _ (((reckon1_5 a b _ _ _ _ hbx.1 hbx.2.1 hbx.2.2)).mono (fun e w' h => ⟨h.1, by simpa using h.2⟩)))
 by_cases h6 : op = 6
 ·subst h6
  exact fI 6 a b _ _ w (eC _ _ _ (((reckon1_6 a b _ _ _ _ hbx.1 hbx.2.1 hbx.2.2)).mono (fun e w' h => ⟨h.1, by simpa using h.2⟩)))
 ·have b1 : (op == 1) = false := by simpa using h1
  have b2 : (op == 2) = false := by simpa using h2
  have b3 : (op == 3) = false := by simpa using h3
  have b4 : (op == 4) = false := by simpa using h4
  have b5 : (op == 5) = false := by simpa using h5
  have b6 : (op == 6) = false := by simpa using h6
  have hf : Instr.findNow (.int .i64) (.int .i64 op) opsMap.toList 0 = some none := by simp only [opsMap, Instr.findNow, Instr.sameNow, if_true, b1, b2, b3, b4, b5, b6]
  have hv : eD op a b = 0 := by simp [eD, h1, h2, h3, h4, h5, h6]
  have he : cQ op = 4 := by unfold cQ; rw [if_neg (by omega)]
  rw [hv, he]
  exact fI op a b _ _ w (caught_r_pan _ _ _ (((qU op a b hf _ _ _ _ hbx.1 hbx.2.1 hbx.2.2)).mono (fun e w' h => ⟨h.1, by simpa using h.2⟩)))
theorem jR (op a b : Int) (w : World) :
  Calls Tryz.prog 156 #[.int .i64 op, .int .i64 a, .int .i64 b] w fun e' w' => e' = .returned (.tuple #[.bool (eL op a b), .int .i64 (dH op)]) ∧ Below w.heap.size w w' := by
 have hbx := box3 op a b w (.cells #[.int .i64 0] 30)
 by_cases h1 : op = 1
 ·subst h1
  exact jH 1 a b _ _ w (gG _ _ _ (((holds1_1 a b _ _ _ _ hbx.1 hbx.2.1 hbx.2.2)).mono (fun e w' h => ⟨h.1, by simpa using h.2⟩)))
 by_cases h2 : op = 2
 ·subst h2
  exact jH 2 a b _ _ w (gG _ _ _ (((holds1_2 a b _ _ _ _ hbx.1 hbx.2.1 hbx.2.2)).mono (fun e w' h => ⟨h.1, by simpa using h.2⟩)))
 by_cases h3 : op = 3
 ·subst h3
  exact jH 3 a b _ _ w (gG _ _ _ (((holds1_3 a b _ _ _ _ hbx.1 hbx.2.1 hbx.2.2)).mono (fun e w' h => ⟨h.1, by simpa using h.2⟩)))
 by_cases h4 : op = 4
 ·subst h4
  exact jH 4 a b _ _ w (gG _ _ _ (((holds1_4 a b _ _ _ _ hbx.1 hbx.2.1 hbx.2.2)).mono (fun e w' h => ⟨h.1, by simpa using h.2⟩)))
 ·have b1 : (op == 1) = false := by simpa using h1
  have b2 : (op == 2) = false := by simpa using h2
  have b3 : (op == 3) = false := by simpa using h3
  have b4 : (op == 4) = false := by simpa using h4
  have hf : Instr.findNow (.int .i64) (.int .i64 op) cmpMap.toList 0 = some none := by simp only [cmpMap, Instr.findNow, Instr.sameNow, if_true, b1, b2, b3, b4]
  have hv : eL op a b = false := by simp [eL, h1, h2, h3, h4]
  have he : dH op = 4 := by unfold dH; rw [if_neg (by omega)]
  rw [hv, he]
  exact jH op a b _ _ w (caught_h_pan _ _ _ (((holds1_none op a b hf _ _ _ _ hbx.1 hbx.2.1 hbx.2.2)).mono (fun e w' h => ⟨h.1, by simpa using h.2⟩)))
end Go.Proofs.YtebjkmknhpgemaaGreat
namespace Go.Proofs.YtebjkmknhpgemaaGreat
open Go.RowKit
theorem dY (op a b : Int) (w : World) :
  Calls Tryz.prog 124 #[.int .i64 op, .int .i64 a, .int .i64 b] w fun e' w' => e' = .returned (.tuple #[.int .i64 (eD op a b), .int .i64 (cQ op)]) ∧ w' = w := by
 by_cases h1 : op = 1
 ·subst h1
  have hv : eD 1 a b = a := by simp [eD]
  have he : cQ 1 = 0 := by simp [cQ]
  rw [hv, he]
  clear hv he
  go_enter Tryz.func124, Tryz.ntmps124
  go_wp2
  all_goals go_ret2
  all_goals exact ⟨rfl, rfl⟩
 by_cases h2 : op = 2
 ·subst h2
  have hv : eD 2 a b = wrap64 (a + b) := by simp [eD]
  have he : cQ 2 = 0 := by simp [cQ]
  rw [hv, he]
  clear hv he h1
  go_enter Tryz.func124, Tryz.ntmps124
  go_wp2
  all_goals go_ret2
  all_goals exact ⟨rfl, rfl⟩
 by_cases h3 : op = 3
 ·subst h3
  have hv : eD 3 a b = wrap64 (a - b) := by simp [eD]
  have he : cQ 3 = 0 := by simp [cQ]
  rw [hv, he]
  clear hv he h1 h2
  go_enter Tryz.func124, Tryz.ntmps124
  go_wp2
  all_goals go_ret2
  all_goals exact ⟨rfl, rfl⟩
 by_cases h4 : op = 4
 ·subst h4
  have hv : eD 4 a b = wrap64 (a * b) := by simp [eD]
  have he : cQ 4 = 0 := by simp [cQ]
  rw [hv, he]
  clear hv he h1 h2 h3
  go_enter Tryz.func124, Tryz.ntmps124
  go_wp2
  all_goals go_ret2
  all_goals exact ⟨rfl, rfl⟩
 by_cases h5 : op = 5
 ·subst h5
  have hv : eD 5 a b = mE a b := by simp [eD]
  have he : cQ 5 = 0 := by simp [cQ]
  rw [hv, he]
  clear hv he h1 h2 h3 h4
  unfold mE
  go_enter Tryz.func124, Tryz.ntmps124
  go_wp2
  all_goals go_ret2
  all_goals exact ⟨rfl, rfl⟩
 by_cases h6 : op = 6
 ·subst h6
  have hv : eD 6 a b = jS a b := by simp [eD]
  have he : cQ 6 = 0 := by simp [cQ]
  rw [hv, he]
  clear hv he h1 h2 h3 h4 h5
  unfold jS
  go_enter Tryz.func124, Tryz.ntmps124
  go_wp2
  all_goals go_ret2
  all_goals exact ⟨rfl, rfl⟩
 ·have hv : eD op a b = 0 := by simp [eD, h1, h2, h3, h4, h5, h6]
  have he : cQ op = 4 := by unfold cQ; rw [if_neg (by omega)]
  rw [hv, he]
  clear hv he
  have b1 : (op == 1) = false := by simpa using h1
  have b2 : (op == 2) = false := by simpa using h2
  have b3 : (op == 3) = false := by simpa using h3
  have b4 : (op == 4) = false := by simpa using h4
  have b5 : (op == 5) = false := by simpa using h5
  have b6 : (op == 6) = false := by simpa using h6
  clear h1 h2 h3 h4 h5 h6
  go_enter Tryz.func124, Tryz.ntmps124
  go_wp2
  go_ret2
  exact ⟨rfl, rfl⟩
theorem dG (op a b : Int) (w : World) :
  Calls Tryz.prog 122 #[.int .i64 op, .int .i64 a, .int .i64 b] w fun e' w' => e' = .returned (.tuple #[.bool (eL op a b), .int .i64 (dH op)]) ∧ w' = w := by
 by_cases h1 : op = 1
 ·subst h1
  have hv : eL 1 a b = (a == b) := by simp [eL]
  have he : dH 1 = 0 := by simp [dH]
  rw [hv, he]
  clear hv he
  go_enter Tryz.func122, Tryz.ntmps122
  go_wp2
  all_goals go_ret2
  all_goals exact ⟨rfl, rfl⟩
 by_cases h2 : op = 2
 ·subst h2
  have hv : eL 2 a b = (a != b) := by simp [eL]
  have he : dH 2 = 0 := by simp [dH]
  rw [hv, he]
  clear hv he h1
  go_enter Tryz.func122, Tryz.ntmps122
  go_wp2
  all_goals go_ret2
  all_goals exact ⟨rfl, rfl⟩
 by_cases h3 : op = 3
 ·subst h3
  have hv : eL 3 a b = decide (a < b) := by simp [eL]
  have he : dH 3 = 0 := by simp [dH]
  rw [hv, he]
  clear hv he h1 h2
  go_enter Tryz.func122, Tryz.ntmps122
  go_wp2
  all_goals go_ret2
  all_goals exact ⟨rfl, rfl⟩
 by_cases h4 : op = 4
 ·subst h4
  have hv : eL 4 a b = decide (a ≤ b) := by simp [eL]
  have he : dH 4 = 0 := by simp [dH]
  rw [hv, he]
  clear hv he h1 h2 h3
  go_enter Tryz.func122, Tryz.ntmps122
  go_wp2
  all_goals go_ret2
  all_goals exact ⟨rfl, rfl⟩
 ·have hv : eL op a b = false := by simp [eL, h1, h2, h3, h4]
  have he : dH op = 4 := by unfold dH; rw [if_neg (by omega)]
  rw [hv, he]
  clear hv he
  have b1 : (op == 1) = false := by simpa using h1
  have b2 : (op == 2) = false := by simpa using h2
  have b3 : (op == 3) = false := by simpa using h3
  have b4 : (op == 4) = false := by simpa using h4
  clear h1 h2 h3 h4
  go_enter Tryz.func122, Tryz.ntmps122
  go_wp2
  go_ret2
  exact ⟨rfl, rfl⟩
def aW (k n reads : Int) : Int := if reads < 0 ∨ 4 < reads then 3 else if k = 1 then 0 else if ¬ k = 2 then 4 else if n < 0 ∨ reads ≤ n then 3 else 0
theorem dD (k n reads : Int) (w : World) (hr : (Lit.int .i64 reads).wf = true) :
  Calls Tryz.prog 157 #[.agg #[.int .i64 k, .int .i64 n], .int .i64 reads] w fun e' w' => e' = .returned (.int .i64 (aW k n reads)) ∧ w' = w.alloc (.cells #[.int .i64 k, .int .i64 n] 152) := by
 have hr1 : reads ≤ 9223372036854775807 := by have h := hr; simp only [Lit.wf, Bool.and_eq_true, decide_eq_true_eq] at h; exact h.2
 have hr0 : -9223372036854775808 ≤ reads := by have h := hr; simp only [Lit.wf, Bool.and_eq_true, decide_eq_true_eq] at h; exact h.1
 clear hr
 by_cases h1 : reads < 0
 ·have hv : aW k n reads = 3 := by unfold aW; rw [if_pos (by omega)]
  rw [hv]
  clear hv
  go_enter Tryz.func157, Tryz.ntmps157
  go_wp2
  go_ret
  exact ⟨rfl, rfl⟩
 by_cases h2 : 4 < reads
 ·have hv : aW k n reads = 3 := by unfold aW; rw [if_pos (by omega)]
  rw [hv]
  clear hv
  go_enter Tryz.func157, Tryz.ntmps157
  go_wp2
  go_ret
  exact ⟨rfl, rfl⟩
 by_cases h3 : k = 1
 ·subst h3
  have hv : aW 1 n reads = 0 := by unfold aW; rw [if_neg (by omega), if_pos rfl]
  rw [hv]
  clear hv
  go_enter Tryz.func157, Tryz.ntmps157
  go_wp2
  go_ret
  exact ⟨rfl, rfl⟩
 have b3 : (k == 1) = false := by simpa using h3
 have c3 : (k != 1) = true := by simpa using h3
 by_cases h4 : k = 2
 ·subst h4
  clear h3 b3 c3
  by_cases h5 : n < 0
  ·have hv : aW 2 n reads = 3 := by unfold aW; rw [if_neg (by omega), if_neg (by omega), if_neg (by omega), if_pos (by omega)]
   rw [hv]
   clear hv
   go_enter Tryz.func157, Tryz.ntmps157
   go_wp2
   go_ret
   exact ⟨rfl, rfl⟩
  by_cases h6 : reads ≤ n
  ·have hv : aW 2 n reads = 3 := by unfold aW; rw [if_neg (by omega), if_neg (by omega), if_neg (by omega), if_pos (by omega)]
   rw [hv]
   clear hv
   go_enter Tryz.func157, Tryz.ntmps157
   go_wp2
   go_ret
   exact ⟨rfl, rfl⟩
  have hv : aW 2 n reads = 0 := by unfold aW; rw [if_neg (by omega), if_neg (by omega), if_neg (by omega), if_neg (by omega)]
  rw [hv]
  clear hv
  go_enter Tryz.func157, Tryz.ntmps157
  go_wp2
  go_ret
  exact ⟨rfl, rfl⟩
 ·have b4 : (k == 2) = false := by simpa using h4
  have c4 : (k != 2) = true := by simpa using h4
  have hv : aW k n reads = 4 := by unfold aW; rw [if_neg (by omega), if_neg h3, if_pos h4]
  rw [hv]
  clear hv h3 h4
  go_enter Tryz.func157, Tryz.ntmps157
  go_wp2
  go_ret
  exact ⟨rfl, rfl⟩
theorem bI (k n reads : Int) (w : World) (hr : (Lit.int .i64 reads).wf = true) :
  Calls Tryz.prog 134 #[.agg #[.int .i64 k, .int .i64 n], .int .i64 reads] w fun e' w' => e' = .returned (.int .i64 (aW k n reads)) ∧ w' = w.alloc (.cells #[.int .i64 k, .int .i64 n] 152) := by
 have hr1 : reads ≤ 9223372036854775807 := by have h := hr; simp only [Lit.wf, Bool.and_eq_true, decide_eq_true_eq] at h; exact h.2
 have hr0 : -9223372036854775808 ≤ reads := by have h := hr; simp only [Lit.wf, Bool.and_eq_true, decide_eq_true_eq] at h; exact h.1
 clear hr
 by_cases h1 : reads < 0
 ·have hv : aW k n reads = 3 := by unfold aW; rw [if_pos (by omega)]
  rw [hv]
  clear hv
  have d0 : decide (0 ≤ reads) = false := by simp; omega
  go_enter Tryz.func134, Tryz.ntmps134
  go_wp2
  go_ret
  exact ⟨rfl, rfl⟩
 by_cases h2 : 4 < reads
 ·have hv : aW k n reads = 3 := by unfold aW; rw [if_pos (by omega)]
  rw [hv]
  clear hv
  have d0 : decide (0 ≤ reads) = true := by simp; omega
  have d1 : decide (reads ≤ 4) = false := by simp; omega
  go_enter Tryz.func134, Tryz.ntmps134
  go_wp2
  go_ret
  exact ⟨rfl, rfl⟩
 by_cases h3 : k = 1
 ·subst h3
  have hv : aW 1 n reads = 0 := by unfold aW; rw [if_neg (by omega), if_pos rfl]
  rw [hv]
  clear hv
  have d0 : decide (0 ≤ reads) = true := by simp; omega
  have d1 : decide (reads ≤ 4) = true := by simp; omega
  go_enter Tryz.func134, Tryz.ntmps134
  go_wp2
  go_ret
  exact ⟨rfl, rfl⟩
 have b3 : (k == 1) = false := by simpa using h3
 have c3 : (k != 1) = true := by simpa using h3
 by_cases h4 : k = 2
 ·subst h4
  clear h3 b3 c3
  by_cases h5 : n < 0
  ·have hv : aW 2 n reads = 3 := by unfold aW; rw [if_neg (by omega), if_neg (by omega), if_neg (by omega), if_pos (by omega)]
   rw [hv]
   clear hv
   have d0 : decide (0 ≤ reads) = true := by simp; omega
   have d1 : decide (reads ≤ 4) = true := by simp; omega
   have d2 : decide (0 ≤ n) = false := by simp; omega
   go_enter Tryz.func134, Tryz.ntmps134
   go_wp2
   go_ret
   exact ⟨rfl, rfl⟩
  by_cases h6 : reads ≤ n
  ·have hv : aW 2 n reads = 3 := by unfold aW; rw [if_neg (by omega), if_neg (by omega), if_neg (by omega), if_pos (by omega)]
   rw [hv]
   clear hv
   have d0 : decide (0 ≤ reads) = true := by simp; omega
   have d1 : decide (reads ≤ 4) = true := by simp; omega
   have d2 : decide (0 ≤ n) = true := by simp; omega
   have d3 : decide (n ≤ reads - 1) = false := by simp; omega
   go_enter Tryz.func134, Tryz.ntmps134
   go_wp2
   go_ret
   exact ⟨rfl, rfl⟩
  have hv : aW 2 n reads = 0 := by unfold aW; rw [if_neg (by omega), if_neg (by omega), if_neg (by omega), if_neg (by omega)]
  rw [hv]
  clear hv
  have d0 : decide (0 ≤ reads) = true := by simp; omega
  have d1 : decide (reads ≤ 4) = true := by simp; omega
  have d2 : decide (0 ≤ n) = true := by simp; omega
  have d3 : decide (n ≤ reads - 1) = true := by simp; omega
  go_enter Tryz.func134, Tryz.ntmps134
  go_wp2
  go_ret
  exact ⟨rfl, rfl⟩
 ·have b4 : (k == 2) = false := by simpa using h4
  have c4 : (k != 2) = true := by simpa using h4
  have hv : aW k n reads = 4 := by unfold aW; rw [if_neg (by omega), if_neg h3, if_pos h4]
  rw [hv]
  clear hv h3 h4
  have d0 : decide (0 ≤ reads) = true := by simp; omega
  have d1 : decide (reads ≤ 4) = true := by simp; omega
  go_enter Tryz.func134, Tryz.ntmps134
  go_wp2
  go_ret
  exact ⟨rfl, rfl⟩
end Go.Proofs.YtebjkmknhpgemaaGreat
