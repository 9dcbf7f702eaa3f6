/-
  
  Conditions: those that each theorem states.
-/
import Derived.Test.YtcgpkonfneofdaaGreatSClos
namespace Go.Proofs.YtcgpkonfneofdaaGreat
open Go.RowKit
def reckV (op a b : Int) : Int := if op = 1 then a else if op = 2 then wrap64 (a + b) else if op = 3 then wrap64 (a - b) else if op = 4 then wrap64 (a * b) else if op = 5 then lesser a b else if op = 6 then greater a b else 0
def reckE (op : Int) : Int := if 1 ≤ op ∧ op ≤ 6 then 0 else 4
def holdV (k a b : Int) : Bool := if k = 1 then a == b else if k = 2 then a != b else if k = 3 then decide (a < b) else if k = 4 then decide (a ≤ b) else false
def holdE (k : Int) : Int := if 1 ≤ k ∧ k ≤ 4 then 0 else 4
theorem new_cell (w : World) (v : Value) (T : TypeId) : (w.alloc (.cells #[v] T)).cell? ⟨w.heap.size, 0, none⟩ = some v := by simp
theorem box3 (op a b : Int) (w : World) (o : Obj) :
  ((((w.alloc (.cells #[.int .i64 op] 3)).alloc (.cells #[.int .i64 a] 3)).alloc (.cells #[.int .i64 b] 3)).alloc o).cell? ⟨w.heap.size, 0, none⟩ = some (.int .i64 op) ∧ ((((w.alloc (.cells #[.int .i64 op] 3)).alloc (.cells #[.int .i64 a] 3)).alloc (.cells #[.int .i64 b] 3)).alloc o).cell? ⟨w.heap.size + 1, 0, none⟩ = some (.int .i64 a) ∧ ((((w.alloc (.cells #[.int .i64 op] 3)).alloc (.cells #[.int .i64 a] 3)).alloc (.cells #[.int .i64 b] 3)).alloc o).cell? ⟨w.heap.size + 2, 0, none⟩ = some (.int .i64 b) := by
 refine ⟨?_, ?_, ?_⟩
 ·rw [World.cell?_alloc_lt _ _ _ (by simp; omega), World.cell?_alloc_lt _ _ _ (by simp; omega), World.cell?_alloc_lt _ _ _ (by simp)]; simp
 ·rw [World.cell?_alloc_lt _ _ _ (by simp), World.cell?_alloc_lt _ _ _ (by simp)]
  simp
 ·rw [World.cell?_alloc_lt _ _ _ (by simp)]
  have := new_cell ((w.alloc (.cells #[.int .i64 op] 3)).alloc (.cells #[.int .i64 a] 3)) (.int .i64 b) 3
  simpa using this
theorem up3 {w w1 : World} {x y z : Obj} (hb : Below (((w.alloc x).alloc y).alloc z).heap.size (((w.alloc x).alloc y).alloc z) w1) : Below w.heap.size w w1 :=
 ((((Below.refl _ _).alloc (Nat.le_refl _) x).alloc (by simp) y).alloc (by simp; omega) z).trans (hb.mono (by simp; omega))
theorem reckon_by (op a b : Int) (v : Int) (e : Int) (w : World)
  (h : Calls Tryz.prog 28 #[.func (.func 124) #[] #[.pointer (some ⟨w.heap.size, 0, none⟩), .pointer (some ⟨w.heap.size + 1, 0, none⟩), .pointer (some ⟨w.heap.size + 2, 0, none⟩)]] (((w.alloc (.cells #[.int .i64 op] 3)).alloc (.cells #[.int .i64 a] 3)).alloc (.cells #[.int .i64 b] 3)) fun e' w' => e' = .returned (.tuple #[.int .i64 v, .int .i64 e]) ∧ Below (((w.alloc (.cells #[.int .i64 op] 3)).alloc (.cells #[.int .i64 a] 3)).alloc (.cells #[.int .i64 b] 3)).heap.size (((w.alloc (.cells #[.int .i64 op] 3)).alloc (.cells #[.int .i64 a] 3)).alloc (.cells #[.int .i64 b] 3)) w') :
  Calls Tryz.prog 106 #[.int .i64 op, .int .i64 a, .int .i64 b] w fun e' w' => e' = .returned (.tuple #[.int .i64 v, .int .i64 e]) ∧ Below w.heap.size w w' := by
 have hmf : ∀ (fn : Fn) (first cap : Array Value) (w : World), (Instr.makeFunc fn first cap).run Tryz.prog w = .ok (.func fn first cap) w := fun _ _ _ _ => rfl
 have H : Hid (Calls Tryz.prog 28 #[.func (.func 124) #[] #[.pointer (some ⟨w.heap.size, 0, none⟩), .pointer (some ⟨w.heap.size + 1, 0, none⟩), .pointer (some ⟨w.heap.size + 2, 0, none⟩)]] (((w.alloc (.cells #[.int .i64 op] 3)).alloc (.cells #[.int .i64 a] 3)).alloc (.cells #[.int .i64 b] 3)) fun e' w' => e' = .returned (.tuple #[.int .i64 v, .int .i64 e]) ∧ Below (((w.alloc (.cells #[.int .i64 op] 3)).alloc (.cells #[.int .i64 a] 3)).alloc (.cells #[.int .i64 b] 3)).heap.size (((w.alloc (.cells #[.int .i64 op] 3)).alloc (.cells #[.int .i64 a] 3)).alloc (.cells #[.int .i64 b] 3)) w') := h
 clear h
 go_enter Tryz.func106, Tryz.ntmps106
 go_wp2_with fail
 refine H.out.mono ?_
 clear H
 rintro e w1 ⟨rfl, hb⟩
 have Hb := up3 hb
 clear hb
 go_wp2
 go_ret2
 exact ⟨rfl, Hb⟩
theorem holds_by (op a b : Int) (v : Bool) (e : Int) (w : World)
  (h : Calls Tryz.prog 41 #[.func (.func 121) #[] #[.pointer (some ⟨w.heap.size, 0, none⟩), .pointer (some ⟨w.heap.size + 1, 0, none⟩), .pointer (some ⟨w.heap.size + 2, 0, none⟩)]] (((w.alloc (.cells #[.int .i64 op] 3)).alloc (.cells #[.int .i64 a] 3)).alloc (.cells #[.int .i64 b] 3)) fun e' w' => e' = .returned (.tuple #[.bool v, .int .i64 e]) ∧ Below (((w.alloc (.cells #[.int .i64 op] 3)).alloc (.cells #[.int .i64 a] 3)).alloc (.cells #[.int .i64 b] 3)).heap.size (((w.alloc (.cells #[.int .i64 op] 3)).alloc (.cells #[.int .i64 a] 3)).alloc (.cells #[.int .i64 b] 3)) w') :
  Calls Tryz.prog 104 #[.int .i64 op, .int .i64 a, .int .i64 b] w fun e' w' => e' = .returned (.tuple #[.bool v, .int .i64 e]) ∧ Below w.heap.size w w' := by
 have hmf : ∀ (fn : Fn) (first cap : Array Value) (w : World), (Instr.makeFunc fn first cap).run Tryz.prog w = .ok (.func fn first cap) w := fun _ _ _ _ => rfl
 have H : Hid (Calls Tryz.prog 41 #[.func (.func 121) #[] #[.pointer (some ⟨w.heap.size, 0, none⟩), .pointer (some ⟨w.heap.size + 1, 0, none⟩), .pointer (some ⟨w.heap.size + 2, 0, none⟩)]] (((w.alloc (.cells #[.int .i64 op] 3)).alloc (.cells #[.int .i64 a] 3)).alloc (.cells #[.int .i64 b] 3)) fun e' w' => e' = .returned (.tuple #[.bool v, .int .i64 e]) ∧ Below (((w.alloc (.cells #[.int .i64 op] 3)).alloc (.cells #[.int .i64 a] 3)).alloc (.cells #[.int .i64 b] 3)).heap.size (((w.alloc (.cells #[.int .i64 op] 3)).alloc (.cells #[.int .i64 a] 3)).alloc (.cells #[.int .i64 b] 3)) w') := h
 clear h
 go_enter Tryz.func104, Tryz.ntmps104
 go_wp2_with fail
 refine H.out.mono ?_
 clear H
 rintro e w1 ⟨rfl, hb⟩
 have Hb := up3 hb
 clear hb
 go_wp2
 go_ret2
 exact ⟨rfl, Hb⟩
theorem reckon_any (op a b : Int) (w : World) :
  Calls Tryz.prog 106 #[.int .i64 op, .int .i64 a, .int .i64 b] w fun e' w' => e' = .returned (.tuple #[.int .i64 (reckV op a b), .int .i64 (reckE op)]) ∧ Below w.heap.size w w' := by
 have hbx := box3 op a b w (.cells #[.int .i64 0] 30)
 by_cases h1 : op = 1
 ·subst h1
  exact reckon_by 1 a b _ _ w (caught_r_ret _ _ _ (((reckon1_1 a b _ _ _ _ hbx.1 hbx.2.1 hbx.2.2)).mono (fun e w' h => ⟨h.1, by simpa using h.2⟩)))
 by_cases h2 : op = 2
 ·subst h2
  exact reckon_by 2 a b _ _ w (caught_r_ret _ _ _ (((reckon1_2 a b _ _ _ _ hbx.1 hbx.2.1 hbx.2.2)).mono (fun e w' h => ⟨h.1, by simpa using h.2⟩)))
 by_cases h3 : op = 3
 ·subst h3
  exact reckon_by 3 a b _ _ w (caught_r_ret _ _ _ (((reckon1_3 a b _ _ _ _ hbx.1 hbx.2.1 hbx.2.2)).mono (fun e w' h => ⟨h.1, by simpa using h.2⟩)))
 by_cases h4 : op = 4
 ·subst h4
  exact reckon_by 4 a b _ _ w (caught_r_ret _ _ _ (((reckon1_4 a b _ _ _ _ hbx.1 hbx.2.1 hbx.2.2)).mono (fun e w' h => ⟨h.1, by simpa using h.2⟩)))
 by_cases h5 : op = 5
 ·subst h5
  exact reckon_by 5 a b _ _ w (caught_r_ret _ _ _ (((reckon1_5 a b _ _ _ _ hbx.1 hbx.2.1 hbx.2.2)).mono (fun e w' h => ⟨h.1, by simpa using h.2⟩)))
 by_cases h6 : op = 6
 ·subst h6
  exact reckon_by 6 a b _ _ w (caught_r_ret _ _ _ (((reckon1_6 a b _ _ _ _ hbx.1 hbx.2.1 hbx.2.2)).mono (fun e w' h => ⟨h.1, by simpa using h.2⟩)))
 ·have b1 : (op == 1) = false := by simpa using h1
  have b2 : (op == 2) = false := by simpa using h2
  have b3 : (op == 3) = false := by simpa using h3
  have b4 : (op == 4) = false := by simpa using h4
  have b5 : (op == 5) = false := by simpa using h5
  have b6 : (op == 6) = false := by simpa using h6
  have hf : Instr.findNow (.int .i64) (.int .i64 op) opsMap.toList 0 = some none := by simp only [opsMap, Instr.findNow, Instr.sameNow, if_true, b1, b2, b3, b4, b5, b6]
  have hv : reckV op a b = 0 := by simp [reckV, h1, h2, h3, h4, h5, h6]
  have he : reckE op = 4 := by unfold reckE; rw [if_neg (by omega)]
  rw [hv, he]
  exact reckon_by op a b _ _ w (caught_r_pan _ _ _ (((reckon1_none op a b hf _ _ _ _ hbx.1 hbx.2.1 hbx.2.2)).mono (fun e w' h => ⟨h.1, by simpa using h.2⟩)))
theorem holds_any (op a b : Int) (w : World) :
  Calls Tryz.prog 104 #[.int .i64 op, .int .i64 a, .int .i64 b] w fun e' w' => e' = .returned (.tuple #[.bool (holdV op a b), .int .i64 (holdE op)]) ∧ Below w.heap.size w w' := by
 have hbx := box3 op a b w (.cells #[.int .i64 0] 30)
 by_cases h1 : op = 1
 ·subst h1
  exact holds_by 1 a b _ _ w (caught_h_ret _ _ _ (((holds1_1 a b _ _ _ _ hbx.1 hbx.2.1 hbx.2.2)).mono (fun e w' h => ⟨h.1, by simpa using h.2⟩)))
 by_cases h2 : op = 2
 ·subst h2
  exact holds_by 2 a b _ _ w (caught_h_ret _ _ _ (((holds1_2 a b _ _ _ _ hbx.1 hbx.2.1 hbx.2.2)).mono (fun e w' h => ⟨h.1, by simpa using h.2⟩)))
 by_cases h3 : op = 3
 ·subst h3
  exact holds_by 3 a b _ _ w (caught_h_ret _ _ _ (((holds1_3 a b _ _ _ _ hbx.1 hbx.2.1 hbx.2.2)).mono (fun e w' h => ⟨h.1, by simpa using h.2⟩)))
 by_cases h4 : op = 4
 ·subst h4
  exact holds_by 4 a b _ _ w (caught_h_ret _ _ _ (((holds1_4 a b _ _ _ _ hbx.1 hbx.2.1 hbx.2.2)).mono (fun e w' h => ⟨h.1, by simpa using h.2⟩)))
 ·have b1 : (op == 1) = false := by simpa using h1
  have b2 : (op == 2) = false := by simpa using h2
  have b3 : (op == 3) = false := by simpa using h3
  have b4 : (op == 4) = false := by simpa using h4
  have hf : Instr.findNow (.int .i64) (.int .i64 op) cmpMap.toList 0 = some none := by simp only [cmpMap, Instr.findNow, Instr.sameNow, if_true, b1, b2, b3, b4]
  have hv : holdV op a b = false := by simp [holdV, h1, h2, h3, h4]
  have he : holdE op = 4 := by unfold holdE; rw [if_neg (by omega)]
  rw [hv, he]
  exact holds_by op a b _ _ w (caught_h_pan _ _ _ (((holds1_none op a b hf _ _ _ _ hbx.1 hbx.2.1 hbx.2.2)).mono (fun e w' h => ⟨h.1, by simpa using h.2⟩)))
end Go.Proofs.YtcgpkonfneofdaaGreat
namespace Go.Proofs.YtcgpkonfneofdaaGreat
open Go.RowKit
def chkV (k n reads : Int) : Int := if reads < 0 ∨ 4 < reads then 3 else if k = 1 then 0 else if ¬ k = 2 then 4 else if n < 0 ∨ reads ≤ n then 3 else 0
theorem check_any (k n reads : Int) (w : World) (hr : (Lit.int .i64 reads).wf = true) :
  Calls Tryz.prog 105 #[.agg #[.int .i64 k, .int .i64 n], .int .i64 reads] w fun e' w' => e' = .returned (.int .i64 (chkV k n reads)) ∧ w' = w.alloc (.cells #[.int .i64 k, .int .i64 n] 101) := by
 have hr1 : reads ≤ 9223372036854775807 := by have h := hr; simp only [Lit.wf, Bool.and_eq_true, decide_eq_true_eq] at h; exact h.2
 have hr0 : -9223372036854775808 ≤ reads := by have h := hr; simp only [Lit.wf, Bool.and_eq_true, decide_eq_true_eq] at h; exact h.1
 clear hr
 by_cases h1 : reads < 0
 ·have hv : chkV k n reads = 3 := by unfold chkV; rw [if_pos (by omega)]
  rw [hv]
  clear hv
  go_enter Tryz.func105, Tryz.ntmps105
  go_wp2
  go_ret
  exact ⟨rfl, rfl⟩
 by_cases h2 : 4 < reads
 ·have hv : chkV k n reads = 3 := by unfold chkV; rw [if_pos (by omega)]
  rw [hv]
  clear hv
  go_enter Tryz.func105, Tryz.ntmps105
  go_wp2
  go_ret
  exact ⟨rfl, rfl⟩
 by_cases h3 : k = 1
 ·subst h3
  have hv : chkV 1 n reads = 0 := by unfold chkV; rw [if_neg (by omega), if_pos rfl]
  rw [hv]
  clear hv
  go_enter Tryz.func105, Tryz.ntmps105
  go_wp2
  go_ret
  exact ⟨rfl, rfl⟩
 have b3 : (k == 1) = false := by simpa using h3
 have c3 : (k != 1) = true := by simpa using h3
 by_cases h4 : k = 2
 ·subst h4
  clear h3 b3 c3
  by_cases h5 : n < 0
  ·have hv : chkV 2 n reads = 3 := by unfold chkV; rw [if_neg (by omega), if_neg (by omega), if_neg (by omega), if_pos (by omega)]
   rw [hv]
   clear hv
   go_enter Tryz.func105, Tryz.ntmps105
   go_wp2
   go_ret
   exact ⟨rfl, rfl⟩
  by_cases h6 : reads ≤ n
  ·have hv : chkV 2 n reads = 3 := by unfold chkV; rw [if_neg (by omega), if_neg (by omega), if_neg (by omega), if_pos (by omega)]
   rw [hv]
   clear hv
   go_enter Tryz.func105, Tryz.ntmps105
   go_wp2
   go_ret
   exact ⟨rfl, rfl⟩
  have hv : chkV 2 n reads = 0 := by unfold chkV; rw [if_neg (by omega), if_neg (by omega), if_neg (by omega), if_neg (by omega)]
  rw [hv]
  clear hv
  go_enter Tryz.func105, Tryz.ntmps105
  go_wp2
  go_ret
  exact ⟨rfl, rfl⟩
 ·have b4 : (k == 2) = false := by simpa using h4
  have c4 : (k != 2) = true := by simpa using h4
  have hv : chkV k n reads = 4 := by unfold chkV; rw [if_neg (by omega), if_neg h3, if_pos h4]
  rw [hv]
  clear hv h3 h4
  go_enter Tryz.func105, Tryz.ntmps105
  go_wp2
  go_ret
  exact ⟨rfl, rfl⟩
end Go.Proofs.YtcgpkonfneofdaaGreat
