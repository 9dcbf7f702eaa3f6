/-
  
  Conditions: those that each theorem states.
-/
import Derived.Test.YtcgpkonfneofdaaGreatSClos
set_option maxRecDepth 100000
namespace Go.Proofs.YtcgpkonfneofdaaGreat
open Go.RowKit
theorem catchNu_panicking (p : Addr) (x y : Int) (older : List PanicEntry) (w : World) (hc : w.cell? p = some (.int .i64 y)) (hz : w.frozen? p = false) :
  CallsD Tryz.prog 61 #[.pointer (some p)] (.panicking ({ v := .iface 30 (.int .i64 x), recovered := false } :: older)) w fun e u' w' =>
   e = .returned (.tuple #[]) ∧ u' = .panicking ({ v := .iface 30 (.int .i64 x), recovered := true } :: older) ∧ w' = w.setCell p (.int .i64 x) := by
 refine callsD_of_wpS Tryz.func61 rfl fun c₀ cs hu => ?_
 apply wpS_seq
 apply wpS_region
 simp [wpOpsS, go_sem, recoverD, hu, Tryz.ntmps61, Exit.thenS]
 apply wpS_seq
 apply wpS_region
 simp [wpOpsS, go_sem, Exit.thenS]
 refine wpS_cond (t := true) (by simp [Act.eval, Array.replicate]) ?_
 simp only [if_true]
 apply wpS_region
 simp [wpOpsS, go_sem, assert_errno, hc, hz, bodyPostS, results, Tryz.results61]
theorem catchNu_idle (p : Addr) (w : World) :
  CallsD Tryz.prog 61 #[.pointer (some p)] .returning w fun e u' w' => e = .returned (.tuple #[]) ∧ u' = .returning ∧ w' = w := by
 refine callsD_of_wpS Tryz.func61 rfl fun c₀ cs hu => ?_
 apply wpS_seq
 apply wpS_region
 simp [wpOpsS, go_sem, recoverD, hu, Tryz.ntmps61, Exit.thenS]
 apply wpS_seq
 apply wpS_region
 simp [wpOpsS, go_sem, Exit.thenS]
 refine wpS_cond (t := false) (by simp [Act.eval, Array.replicate]) ?_
 simp only [Bool.false_eq_true, if_false]
 refine wpS_of_wp (wp_skip ?_)
 cases c₀
 simp_all [bodyPostS, results, Tryz.results61]
theorem caughtNu_ret (F : FuncId) (cap : Array Value) (hF : ∀ w, Sem.run Tryz.prog (callFunc F cap) w = .ok (.enter F cap) w) (P : Value → World → Prop) (w : World) (hP : ∀ v w', P v w' → P v (w'.setCell ⟨w.heap.size, 0, none⟩ (.int .i64 0)))
  (h : Calls Tryz.prog F cap (w.alloc (.cells #[.int .i64 0] 30)) fun e w' => ∃ v, e = .returned v ∧ P v w' ∧ Below (w.heap.size + 1) (w.alloc (.cells #[.int .i64 0] 30)) w') :
  Calls Tryz.prog 28 #[.func (.func F) #[] cap] w fun e w' => ∃ v, e = .returned (.tuple #[v, .int .i64 0]) ∧ P v w' ∧ Below w.heap.size w w' := by
 have hmf : ∀ (fn : Fn) (first cap : Array Value) (w : World), (Instr.makeFunc fn first cap).run Tryz.prog w = .ok (.func fn first cap) w := fun _ _ _ _ => rfl
 have H : Hid (Calls Tryz.prog F cap (w.alloc (.cells #[.int .i64 0] 30)) fun e w' => ∃ v, e = .returned v ∧ P v w' ∧ Below (w.heap.size + 1) (w.alloc (.cells #[.int .i64 0] 30)) w') := h
 have HP : Hid (∀ v w', P v w' → P v (w'.setCell ⟨w.heap.size, 0, none⟩ (.int .i64 0))) := hP
 have HF : Hid (∀ w, Sem.run Tryz.prog (callFunc F cap) w = .ok (.enter F cap) w) := hF
 clear h hP hF
 go_enter_defers Tryz.func28, Tryz.ntmps28
 go_wp2_with fail
 rw [HF.out, Oper.upon_enter]
 refine H.out.mono ?_
 clear H
 rintro e w1 ⟨v, rfl, hv, hb⟩
 have hc : w1.cell? ⟨w.heap.size, 0, none⟩ = some (.int .i64 0) := by rw [hb.cell (by simp)]; simp
 have hf : w1.frozen? ⟨w.heap.size, 0, none⟩ = false := by rw [hb.frozen (by simp)]; simp
 have Hb : Hid (Below (w.heap.size + 1) (w.alloc (.cells #[.int .i64 0] 30)) w1) := hb
 have HV : Hid (P v (w1.setCell ⟨w.heap.size, 0, none⟩ (.int .i64 0))) := HP.out v w1 hv
 clear hb hv HP
 go_wp2
 refine leaves_cons (f := 61) (args := #[.pointer (some ⟨w.heap.size, 0, none⟩)]) (by simp) (by simp [go_sem]) ?_
 refine (catchNu_idle ⟨w.heap.size, 0, none⟩ _).mono ?_
 rintro e u' w'' ⟨rfl, rfl, rfl⟩
 simp [Leaves, settle, results, Tryz.results28, go_sem, hc]
 have hb := Hb.out
 exact ⟨HV.out, ((Below.refl _ _).alloc (Nat.le_refl _) _ |>.trans (hb.mono (by omega))).setCell (by simp) _⟩
theorem caughtNu_pan (F : FuncId) (cap : Array Value) (hF : ∀ w, Sem.run Tryz.prog (callFunc F cap) w = .ok (.enter F cap) w) (x : Int) (w : World)
  (h : Calls Tryz.prog F cap (w.alloc (.cells #[.int .i64 0] 30)) fun e w' => e = .panicked [{ v := .iface 30 (.int .i64 x), recovered := false }] ∧ Below (w.heap.size + 1) (w.alloc (.cells #[.int .i64 0] 30)) w') :
  Calls Tryz.prog 28 #[.func (.func F) #[] cap] w fun e w' => e = .returned (.tuple #[.int .i64 0, .int .i64 x]) ∧ Below w.heap.size w w' := by
 have hmf : ∀ (fn : Fn) (first cap : Array Value) (w : World), (Instr.makeFunc fn first cap).run Tryz.prog w = .ok (.func fn first cap) w := fun _ _ _ _ => rfl
 have H : Hid (Calls Tryz.prog F cap (w.alloc (.cells #[.int .i64 0] 30)) fun e w' => e = .panicked [{ v := .iface 30 (.int .i64 x), recovered := false }] ∧ Below (w.heap.size + 1) (w.alloc (.cells #[.int .i64 0] 30)) w') := h
 have HF : Hid (∀ w, Sem.run Tryz.prog (callFunc F cap) w = .ok (.enter F cap) w) := hF
 clear h hF
 go_enter_defers Tryz.func28, Tryz.ntmps28
 go_wp2_with fail
 rw [HF.out, Oper.upon_enter]
 refine H.out.mono ?_
 clear H
 rintro e w1 ⟨rfl, hb⟩
 have hc : w1.cell? ⟨w.heap.size, 0, none⟩ = some (.int .i64 0) := by rw [hb.cell (by simp)]; simp
 have hf : w1.frozen? ⟨w.heap.size, 0, none⟩ = false := by rw [hb.frozen (by simp)]; simp
 refine leaves_cons (f := 61) (args := #[.pointer (some ⟨w.heap.size, 0, none⟩)]) (by simp) (by simp [go_sem]) ?_
 refine (catchNu_panicking ⟨w.heap.size, 0, none⟩ x 0 [] _ hc hf).mono ?_
 rintro e u' w'' ⟨rfl, rfl, rfl⟩
 simp [Leaves, settle, results, Tryz.results28, go_sem, hc]
 exact ((Below.refl _ _).alloc (Nat.le_refl _) _ |>.trans (hb.mono (by omega))).setCell (by simp) _
theorem catchIn_panicking (p : Addr) (x y : Int) (older : List PanicEntry) (w : World) (hc : w.cell? p = some (.int .i64 y)) (hz : w.frozen? p = false) :
  CallsD Tryz.prog 84 #[.pointer (some p)] (.panicking ({ v := .iface 30 (.int .i64 x), recovered := false } :: older)) w fun e u' w' =>
   e = .returned (.tuple #[]) ∧ u' = .panicking ({ v := .iface 30 (.int .i64 x), recovered := true } :: older) ∧ w' = w.setCell p (.int .i64 x) := by
 refine callsD_of_wpS Tryz.func84 rfl fun c₀ cs hu => ?_
 apply wpS_seq
 apply wpS_region
 simp [wpOpsS, go_sem, recoverD, hu, Tryz.ntmps84, Exit.thenS]
 apply wpS_seq
 apply wpS_region
 simp [wpOpsS, go_sem, Exit.thenS]
 refine wpS_cond (t := true) (by simp [Act.eval, Array.replicate]) ?_
 simp only [if_true]
 apply wpS_region
 simp [wpOpsS, go_sem, assert_errno, hc, hz, bodyPostS, results, Tryz.results84]
theorem catchIn_idle (p : Addr) (w : World) :
  CallsD Tryz.prog 84 #[.pointer (some p)] .returning w fun e u' w' => e = .returned (.tuple #[]) ∧ u' = .returning ∧ w' = w := by
 refine callsD_of_wpS Tryz.func84 rfl fun c₀ cs hu => ?_
 apply wpS_seq
 apply wpS_region
 simp [wpOpsS, go_sem, recoverD, hu, Tryz.ntmps84, Exit.thenS]
 apply wpS_seq
 apply wpS_region
 simp [wpOpsS, go_sem, Exit.thenS]
 refine wpS_cond (t := false) (by simp [Act.eval, Array.replicate]) ?_
 simp only [Bool.false_eq_true, if_false]
 refine wpS_of_wp (wp_skip ?_)
 cases c₀
 simp_all [bodyPostS, results, Tryz.results84]
theorem caughtIn_ret (F : FuncId) (cap : Array Value) (hF : ∀ w, Sem.run Tryz.prog (callFunc F cap) w = .ok (.enter F cap) w) (P : Value → World → Prop) (w : World) (hP : ∀ v w', P v w' → P v (w'.setCell ⟨w.heap.size, 0, none⟩ (.int .i64 0)))
  (h : Calls Tryz.prog F cap (w.alloc (.cells #[.int .i64 0] 30)) fun e w' => ∃ v, e = .returned v ∧ P v w' ∧ Below (w.heap.size + 1) (w.alloc (.cells #[.int .i64 0] 30)) w') :
  Calls Tryz.prog 56 #[.func (.func F) #[] cap] w fun e w' => ∃ v, e = .returned (.tuple #[v, .int .i64 0]) ∧ P v w' ∧ Below w.heap.size w w' := by
 have hmf : ∀ (fn : Fn) (first cap : Array Value) (w : World), (Instr.makeFunc fn first cap).run Tryz.prog w = .ok (.func fn first cap) w := fun _ _ _ _ => rfl
 have H : Hid (Calls Tryz.prog F cap (w.alloc (.cells #[.int .i64 0] 30)) fun e w' => ∃ v, e = .returned v ∧ P v w' ∧ Below (w.heap.size + 1) (w.alloc (.cells #[.int .i64 0] 30)) w') := h
 have HP : Hid (∀ v w', P v w' → P v (w'.setCell ⟨w.heap.size, 0, none⟩ (.int .i64 0))) := hP
 have HF : Hid (∀ w, Sem.run Tryz.prog (callFunc F cap) w = .ok (.enter F cap) w) := hF
 clear h hP hF
 go_enter_defers Tryz.func56, Tryz.ntmps56
 go_wp2_with fail
 rw [HF.out, Oper.upon_enter]
 refine H.out.mono ?_
 clear H
 rintro e w1 ⟨v, rfl, hv, hb⟩
 have hc : w1.cell? ⟨w.heap.size, 0, none⟩ = some (.int .i64 0) := by rw [hb.cell (by simp)]; simp
 have hf : w1.frozen? ⟨w.heap.size, 0, none⟩ = false := by rw [hb.frozen (by simp)]; simp
 have Hb : Hid (Below (w.heap.size + 1) (w.alloc (.cells #[.int .i64 0] 30)) w1) := hb
 have HV : Hid (P v (w1.setCell ⟨w.heap.size, 0, none⟩ (.int .i64 0))) := HP.out v w1 hv
 clear hb hv HP
 go_wp2
 refine leaves_cons (f := 84) (args := #[.pointer (some ⟨w.heap.size, 0, none⟩)]) (by simp) (by simp [go_sem]) ?_
 refine (catchIn_idle ⟨w.heap.size, 0, none⟩ _).mono ?_
 rintro e u' w'' ⟨rfl, rfl, rfl⟩
 simp [Leaves, settle, results, Tryz.results56, go_sem, hc]
 have hb := Hb.out
 exact ⟨HV.out, ((Below.refl _ _).alloc (Nat.le_refl _) _ |>.trans (hb.mono (by omega))).setCell (by simp) _⟩
theorem caughtIn_pan (F : FuncId) (cap : Array Value) (hF : ∀ w, Sem.run Tryz.prog (callFunc F cap) w = .ok (.enter F cap) w) (x : Int) (w : World)
  (h : Calls Tryz.prog F cap (w.alloc (.cells #[.int .i64 0] 30)) fun e w' => e = .panicked [{ v := .iface 30 (.int .i64 x), recovered := false }] ∧ Below (w.heap.size + 1) (w.alloc (.cells #[.int .i64 0] 30)) w') :
  Calls Tryz.prog 56 #[.func (.func F) #[] cap] w fun e w' => e = .returned (.tuple #[.slice none 0 0, .int .i64 x]) ∧ Below w.heap.size w w' := by
 have hmf : ∀ (fn : Fn) (first cap : Array Value) (w : World), (Instr.makeFunc fn first cap).run Tryz.prog w = .ok (.func fn first cap) w := fun _ _ _ _ => rfl
 have H : Hid (Calls Tryz.prog F cap (w.alloc (.cells #[.int .i64 0] 30)) fun e w' => e = .panicked [{ v := .iface 30 (.int .i64 x), recovered := false }] ∧ Below (w.heap.size + 1) (w.alloc (.cells #[.int .i64 0] 30)) w') := h
 have HF : Hid (∀ w, Sem.run Tryz.prog (callFunc F cap) w = .ok (.enter F cap) w) := hF
 clear h hF
 go_enter_defers Tryz.func56, Tryz.ntmps56
 go_wp2_with fail
 rw [HF.out, Oper.upon_enter]
 refine H.out.mono ?_
 clear H
 rintro e w1 ⟨rfl, hb⟩
 have hc : w1.cell? ⟨w.heap.size, 0, none⟩ = some (.int .i64 0) := by rw [hb.cell (by simp)]; simp
 have hf : w1.frozen? ⟨w.heap.size, 0, none⟩ = false := by rw [hb.frozen (by simp)]; simp
 refine leaves_cons (f := 84) (args := #[.pointer (some ⟨w.heap.size, 0, none⟩)]) (by simp) (by simp [go_sem]) ?_
 refine (catchIn_panicking ⟨w.heap.size, 0, none⟩ x 0 [] _ hc hf).mono ?_
 rintro e u' w'' ⟨rfl, rfl, rfl⟩
 simp [Leaves, settle, results, Tryz.results56, go_sem, hc]
 exact ((Below.refl _ _).alloc (Nat.le_refl _) _ |>.trans (hb.mono (by omega))).setCell (by simp) _
end Go.Proofs.YtcgpkonfneofdaaGreat
