/-
  
  Conditions: those that each theorem states.
-/
import Derived.Test.YtcgpkonfneofdaaGreatSHallB
import Derived.Test.YtcgpkonfneofdaaGreatSFault
set_option maxRecDepth 100000
namespace Go.Proofs.YtcgpkonfneofdaaGreat
open Go.RowKit
structure Q4 where
 sa : Option Addr
 ra : Option Addr
 wa : Option Addr
 va : Option Addr
 sn : Nat
 rn : Nat
 wn : Nat
 vn : Nat
 sc : Nat
 rc : Nat
 tc : Nat
 vc : Nat
theorem catchSp_panicking (p : Addr) (x y : Int) (older : List PanicEntry) (w : World) (hc : w.cell? p = some (.int .i64 y)) (hz : w.frozen? p = false) :
  CallsD Tryz.prog 110 #[.pointer (some p)] (.panicking ({ v := .iface 30 (.int .i64 x), recovered := false } :: older)) w fun e u' w' =>
   e = .returned (.tuple #[]) ∧ u' = .panicking ({ v := .iface 30 (.int .i64 x), recovered := true } :: older) ∧ w' = w.setCell p (.int .i64 x) := by
 refine callsD_of_wpS Tryz.func110 rfl fun c₀ cs hu => ?_
 apply wpS_seq
 apply wpS_region
 simp [wpOpsS, go_sem, recoverD, hu, Tryz.ntmps110, Exit.thenS]
 apply wpS_seq
 apply wpS_region
 simp [wpOpsS, go_sem, Exit.thenS]
 refine wpS_cond (t := true) (by simp [Act.eval, Array.replicate]) ?_
 simp only [if_true]
 apply wpS_region
 simp [wpOpsS, go_sem, assert_errno, hc, hz, bodyPostS, results, Tryz.results110]
theorem catchSp_idle (p : Addr) (w : World) :
  CallsD Tryz.prog 110 #[.pointer (some p)] .returning w fun e u' w' => e = .returned (.tuple #[]) ∧ u' = .returning ∧ w' = w := by
 refine callsD_of_wpS Tryz.func110 rfl fun c₀ cs hu => ?_
 apply wpS_seq
 apply wpS_region
 simp [wpOpsS, go_sem, recoverD, hu, Tryz.ntmps110, Exit.thenS]
 apply wpS_seq
 apply wpS_region
 simp [wpOpsS, go_sem, Exit.thenS]
 refine wpS_cond (t := false) (by simp [Act.eval, Array.replicate]) ?_
 simp only [Bool.false_eq_true, if_false]
 refine wpS_of_wp (wp_skip ?_)
 cases c₀
 simp_all [bodyPostS, results, Tryz.results110]
theorem caughtSp_ret (F : FuncId) (cap : Array Value) (hF : ∀ w, Sem.run Tryz.prog (callFunc F cap) w = .ok (.enter F cap) w) (P : Value → World → Prop) (w : World) (hP : ∀ v w', P v w' → P v (w'.setCell ⟨w.heap.size, 0, none⟩ (.int .i64 0)))
  (h : Calls Tryz.prog F cap (w.alloc (.cells #[.int .i64 0] 30)) fun e w' => ∃ v, e = .returned v ∧ P v w' ∧ Below (w.heap.size + 1) (w.alloc (.cells #[.int .i64 0] 30)) w') :
  Calls Tryz.prog 85 #[.func (.func F) #[] cap] w fun e w' => ∃ v, e = .returned (.tuple #[v, .int .i64 0]) ∧ P v w' ∧ Below w.heap.size w w' := by
 have hmf : ∀ (fn : Fn) (first cap : Array Value) (w : World), (Instr.makeFunc fn first cap).run Tryz.prog w = .ok (.func fn first cap) w := fun _ _ _ _ => rfl
 have H : Hid (Calls Tryz.prog F cap (w.alloc (.cells #[.int .i64 0] 30)) fun e w' => ∃ v, e = .returned v ∧ P v w' ∧ Below (w.heap.size + 1) (w.alloc (.cells #[.int .i64 0] 30)) w') := h
 have HP : Hid (∀ v w', P v w' → P v (w'.setCell ⟨w.heap.size, 0, none⟩ (.int .i64 0))) := hP
 have HF : Hid (∀ w, Sem.run Tryz.prog (callFunc F cap) w = .ok (.enter F cap) w) := hF
 clear h hP hF
 go_enter_defers Tryz.func85, Tryz.ntmps85
 go_wp2_with fail
 rw [HF.out, Oper.upon_enter]
 refine H.out.mono ?_
 clear H
 rintro e w1 ⟨v, rfl, hv, hb⟩
 have hc : w1.cell? ⟨w.heap.size, 0, none⟩ = some (.int .i64 0) := by rw [hb.cell (by simp)]; simp
 have hf : w1.frozen? ⟨w.heap.size, 0, none⟩ = false := by rw [hb.frozen (by simp)]; simp
 have Hb : Hid (Below (w.heap.size + 1) (w.alloc (.cells #[.int .i64 0] 30)) w1) := hb
 have HV : Hid (P v (w1.setCell ⟨w.heap.size, 0, none⟩ (.int .i64 0))) := HP.out v w1 hv
 clear hb hv HP
 go_wp2
 refine leaves_cons (f := 110) (args := #[.pointer (some ⟨w.heap.size, 0, none⟩)]) (by simp) (by simp [go_sem]) ?_
 refine (catchSp_idle ⟨w.heap.size, 0, none⟩ _).mono ?_
 rintro e u' w'' ⟨rfl, rfl, rfl⟩
 simp [Leaves, settle, results, Tryz.results85, go_sem, hc]
 have hb := Hb.out
 exact ⟨HV.out, ((Below.refl _ _).alloc (Nat.le_refl _) _ |>.trans (hb.mono (by omega))).setCell (by simp) _⟩
theorem caughtSp_pan (F : FuncId) (cap : Array Value) (hF : ∀ w, Sem.run Tryz.prog (callFunc F cap) w = .ok (.enter F cap) w) (x : Int) (w : World)
  (h : Calls Tryz.prog F cap (w.alloc (.cells #[.int .i64 0] 30)) fun e w' => e = .panicked [{ v := .iface 30 (.int .i64 x), recovered := false }] ∧ Below (w.heap.size + 1) (w.alloc (.cells #[.int .i64 0] 30)) w') :
  Calls Tryz.prog 85 #[.func (.func F) #[] cap] w fun e w' => e = .returned (.tuple #[.slice none 0 0, .int .i64 x]) ∧ Below w.heap.size w w' := by
 have hmf : ∀ (fn : Fn) (first cap : Array Value) (w : World), (Instr.makeFunc fn first cap).run Tryz.prog w = .ok (.func fn first cap) w := fun _ _ _ _ => rfl
 have H : Hid (Calls Tryz.prog F cap (w.alloc (.cells #[.int .i64 0] 30)) fun e w' => e = .panicked [{ v := .iface 30 (.int .i64 x), recovered := false }] ∧ Below (w.heap.size + 1) (w.alloc (.cells #[.int .i64 0] 30)) w') := h
 have HF : Hid (∀ w, Sem.run Tryz.prog (callFunc F cap) w = .ok (.enter F cap) w) := hF
 clear h hF
 go_enter_defers Tryz.func85, Tryz.ntmps85
 go_wp2_with fail
 rw [HF.out, Oper.upon_enter]
 refine H.out.mono ?_
 clear H
 rintro e w1 ⟨rfl, hb⟩
 have hc : w1.cell? ⟨w.heap.size, 0, none⟩ = some (.int .i64 0) := by rw [hb.cell (by simp)]; simp
 have hf : w1.frozen? ⟨w.heap.size, 0, none⟩ = false := by rw [hb.frozen (by simp)]; simp
 refine leaves_cons (f := 110) (args := #[.pointer (some ⟨w.heap.size, 0, none⟩)]) (by simp) (by simp [go_sem]) ?_
 refine (catchSp_panicking ⟨w.heap.size, 0, none⟩ x 0 [] _ hc hf).mono ?_
 rintro e u' w'' ⟨rfl, rfl, rfl⟩
 simp [Leaves, settle, results, Tryz.results85, go_sem, hc]
 exact ((Below.refl _ _).alloc (Nat.le_refl _) _ |>.trans (hb.mono (by omega))).setCell (by simp) _
theorem catchRl_panicking (p : Addr) (x y : Int) (older : List PanicEntry) (w : World) (hc : w.cell? p = some (.int .i64 y)) (hz : w.frozen? p = false) :
  CallsD Tryz.prog 40 #[.pointer (some p)] (.panicking ({ v := .iface 30 (.int .i64 x), recovered := false } :: older)) w fun e u' w' =>
   e = .returned (.tuple #[]) ∧ u' = .panicking ({ v := .iface 30 (.int .i64 x), recovered := true } :: older) ∧ w' = w.setCell p (.int .i64 x) := by
 refine callsD_of_wpS Tryz.func40 rfl fun c₀ cs hu => ?_
 apply wpS_seq
 apply wpS_region
 simp [wpOpsS, go_sem, recoverD, hu, Tryz.ntmps40, Exit.thenS]
 apply wpS_seq
 apply wpS_region
 simp [wpOpsS, go_sem, Exit.thenS]
 refine wpS_cond (t := true) (by simp [Act.eval, Array.replicate]) ?_
 simp only [if_true]
 apply wpS_region
 simp [wpOpsS, go_sem, assert_errno, hc, hz, bodyPostS, results, Tryz.results40]
theorem catchRl_idle (p : Addr) (w : World) :
  CallsD Tryz.prog 40 #[.pointer (some p)] .returning w fun e u' w' => e = .returned (.tuple #[]) ∧ u' = .returning ∧ w' = w := by
 refine callsD_of_wpS Tryz.func40 rfl fun c₀ cs hu => ?_
 apply wpS_seq
 apply wpS_region
 simp [wpOpsS, go_sem, recoverD, hu, Tryz.ntmps40, Exit.thenS]
 apply wpS_seq
 apply wpS_region
 simp [wpOpsS, go_sem, Exit.thenS]
 refine wpS_cond (t := false) (by simp [Act.eval, Array.replicate]) ?_
 simp only [Bool.false_eq_true, if_false]
 refine wpS_of_wp (wp_skip ?_)
 cases c₀
 simp_all [bodyPostS, results, Tryz.results40]
theorem caughtRl_ret (F : FuncId) (cap : Array Value) (hF : ∀ w, Sem.run Tryz.prog (callFunc F cap) w = .ok (.enter F cap) w) (P : Value → World → Prop) (w : World) (hP : ∀ v w', P v w' → P v (w'.setCell ⟨w.heap.size, 0, none⟩ (.int .i64 0)))
  (h : Calls Tryz.prog F cap (w.alloc (.cells #[.int .i64 0] 30)) fun e w' => ∃ v, e = .returned v ∧ P v w' ∧ Below (w.heap.size + 1) (w.alloc (.cells #[.int .i64 0] 30)) w') :
  Calls Tryz.prog 16 #[.func (.func F) #[] cap] w fun e w' => ∃ v, e = .returned (.tuple #[v, .int .i64 0]) ∧ P v w' ∧ Below w.heap.size w w' := by
 have hmf : ∀ (fn : Fn) (first cap : Array Value) (w : World), (Instr.makeFunc fn first cap).run Tryz.prog w = .ok (.func fn first cap) w := fun _ _ _ _ => rfl
 have H : Hid (Calls Tryz.prog F cap (w.alloc (.cells #[.int .i64 0] 30)) fun e w' => ∃ v, e = .returned v ∧ P v w' ∧ Below (w.heap.size + 1) (w.alloc (.cells #[.int .i64 0] 30)) w') := h
 have HP : Hid (∀ v w', P v w' → P v (w'.setCell ⟨w.heap.size, 0, none⟩ (.int .i64 0))) := hP
 have HF : Hid (∀ w, Sem.run Tryz.prog (callFunc F cap) w = .ok (.enter F cap) w) := hF
 clear h hP hF
 go_enter_defers Tryz.func16, Tryz.ntmps16
 go_wp2_with fail
 rw [HF.out, Oper.upon_enter]
 refine H.out.mono ?_
 clear H
 rintro e w1 ⟨v, rfl, hv, hb⟩
 have hc : w1.cell? ⟨w.heap.size, 0, none⟩ = some (.int .i64 0) := by rw [hb.cell (by simp)]; simp
 have hf : w1.frozen? ⟨w.heap.size, 0, none⟩ = false := by rw [hb.frozen (by simp)]; simp
 have Hb : Hid (Below (w.heap.size + 1) (w.alloc (.cells #[.int .i64 0] 30)) w1) := hb
 have HV : Hid (P v (w1.setCell ⟨w.heap.size, 0, none⟩ (.int .i64 0))) := HP.out v w1 hv
 clear hb hv HP
 go_wp2
 refine leaves_cons (f := 40) (args := #[.pointer (some ⟨w.heap.size, 0, none⟩)]) (by simp) (by simp [go_sem]) ?_
 refine (catchRl_idle ⟨w.heap.size, 0, none⟩ _).mono ?_
 rintro e u' w'' ⟨rfl, rfl, rfl⟩
 simp [Leaves, settle, results, Tryz.results16, go_sem, hc]
 have hb := Hb.out
 exact ⟨HV.out, ((Below.refl _ _).alloc (Nat.le_refl _) _ |>.trans (hb.mono (by omega))).setCell (by simp) _⟩
theorem caughtRl_pan (F : FuncId) (cap : Array Value) (hF : ∀ w, Sem.run Tryz.prog (callFunc F cap) w = .ok (.enter F cap) w) (x : Int) (w : World)
  (h : Calls Tryz.prog F cap (w.alloc (.cells #[.int .i64 0] 30)) fun e w' => e = .panicked [{ v := .iface 30 (.int .i64 x), recovered := false }] ∧ Below (w.heap.size + 1) (w.alloc (.cells #[.int .i64 0] 30)) w') :
  Calls Tryz.prog 16 #[.func (.func F) #[] cap] w fun e w' => e = .returned (.tuple #[.slice none 0 0, .int .i64 x]) ∧ Below w.heap.size w w' := by
 have hmf : ∀ (fn : Fn) (first cap : Array Value) (w : World), (Instr.makeFunc fn first cap).run Tryz.prog w = .ok (.func fn first cap) w := fun _ _ _ _ => rfl
 have H : Hid (Calls Tryz.prog F cap (w.alloc (.cells #[.int .i64 0] 30)) fun e w' => e = .panicked [{ v := .iface 30 (.int .i64 x), recovered := false }] ∧ Below (w.heap.size + 1) (w.alloc (.cells #[.int .i64 0] 30)) w') := h
 have HF : Hid (∀ w, Sem.run Tryz.prog (callFunc F cap) w = .ok (.enter F cap) w) := hF
 clear h hF
 go_enter_defers Tryz.func16, Tryz.ntmps16
 go_wp2_with fail
 rw [HF.out, Oper.upon_enter]
 refine H.out.mono ?_
 clear H
 rintro e w1 ⟨rfl, hb⟩
 have hc : w1.cell? ⟨w.heap.size, 0, none⟩ = some (.int .i64 0) := by rw [hb.cell (by simp)]; simp
 have hf : w1.frozen? ⟨w.heap.size, 0, none⟩ = false := by rw [hb.frozen (by simp)]; simp
 refine leaves_cons (f := 40) (args := #[.pointer (some ⟨w.heap.size, 0, none⟩)]) (by simp) (by simp [go_sem]) ?_
 refine (catchRl_panicking ⟨w.heap.size, 0, none⟩ x 0 [] _ hc hf).mono ?_
 rintro e u' w'' ⟨rfl, rfl, rfl⟩
 simp [Leaves, settle, results, Tryz.results16, go_sem, hc]
 exact ((Below.refl _ _).alloc (Nat.le_refl _) _ |>.trans (hb.mono (by omega))).setCell (by simp) _
theorem catchSa_panicking (p : Addr) (x y : Int) (older : List PanicEntry) (w : World) (hc : w.cell? p = some (.int .i64 y)) (hz : w.frozen? p = false) :
  CallsD Tryz.prog 62 #[.pointer (some p)] (.panicking ({ v := .iface 30 (.int .i64 x), recovered := false } :: older)) w fun e u' w' =>
   e = .returned (.tuple #[]) ∧ u' = .panicking ({ v := .iface 30 (.int .i64 x), recovered := true } :: older) ∧ w' = w.setCell p (.int .i64 x) := by
 refine callsD_of_wpS Tryz.func62 rfl fun c₀ cs hu => ?_
 apply wpS_seq
 apply wpS_region
 simp [wpOpsS, go_sem, recoverD, hu, Tryz.ntmps62, Exit.thenS]
 apply wpS_seq
 apply wpS_region
 simp [wpOpsS, go_sem, Exit.thenS]
 refine wpS_cond (t := true) (by simp [Act.eval, Array.replicate]) ?_
 simp only [if_true]
 apply wpS_region
 simp [wpOpsS, go_sem, assert_errno, hc, hz, bodyPostS, results, Tryz.results62]
theorem catchSa_idle (p : Addr) (w : World) :
  CallsD Tryz.prog 62 #[.pointer (some p)] .returning w fun e u' w' => e = .returned (.tuple #[]) ∧ u' = .returning ∧ w' = w := by
 refine callsD_of_wpS Tryz.func62 rfl fun c₀ cs hu => ?_
 apply wpS_seq
 apply wpS_region
 simp [wpOpsS, go_sem, recoverD, hu, Tryz.ntmps62, Exit.thenS]
 apply wpS_seq
 apply wpS_region
 simp [wpOpsS, go_sem, Exit.thenS]
 refine wpS_cond (t := false) (by simp [Act.eval, Array.replicate]) ?_
 simp only [Bool.false_eq_true, if_false]
 refine wpS_of_wp (wp_skip ?_)
 cases c₀
 simp_all [bodyPostS, results, Tryz.results62]
set_option maxHeartbeats 1000000 in
theorem caughtSa_ret (F : FuncId) (cap : Array Value) (hF : ∀ w, Sem.run Tryz.prog (callFunc F cap) w = .ok (.enter F cap) w) (P : Q4 → World → Prop) (w : World) (hP : ∀ q w' i u j, (j = w.heap.size ∨ j = w.heap.size + 1) → P q w' → P q (w'.setCell ⟨j, i, none⟩ u))
  (h : Calls Tryz.prog F cap ((w.alloc (.cells #[.slice none 0 0, .slice none 0 0, .slice none 0 0, .slice none 0 0] 29)).alloc (.cells #[.int .i64 0] 30)) fun e w' => ∃ q : Q4, e = .returned (.agg #[.slice q.sa q.sn q.sc, .slice q.ra q.rn q.rc, .slice q.wa q.wn q.tc, .slice q.va q.vn q.vc]) ∧ P q w' ∧ Below ((w.alloc (.cells #[.slice none 0 0, .slice none 0 0, .slice none 0 0, .slice none 0 0] 29)).alloc (.cells #[.int .i64 0] 30)).heap.size ((w.alloc (.cells #[.slice none 0 0, .slice none 0 0, .slice none 0 0, .slice none 0 0] 29)).alloc (.cells #[.int .i64 0] 30)) w') :
  Calls Tryz.prog 35 #[.func (.func F) #[] cap] w fun e w' => ∃ q : Q4, e = .returned (.tuple #[.agg #[.slice q.sa q.sn q.sc, .slice q.ra q.rn q.rc, .slice q.wa q.wn q.tc, .slice q.va q.vn q.vc], .int .i64 0]) ∧ P q w' ∧ Below w.heap.size w w' := by
 have hmf : ∀ (fn : Fn) (first cap : Array Value) (w : World), (Instr.makeFunc fn first cap).run Tryz.prog w = .ok (.func fn first cap) w := fun _ _ _ _ => rfl
 have H : Hid (Calls Tryz.prog F cap ((w.alloc (.cells #[.slice none 0 0, .slice none 0 0, .slice none 0 0, .slice none 0 0] 29)).alloc (.cells #[.int .i64 0] 30)) fun e w' => ∃ q : Q4, e = .returned (.agg #[.slice q.sa q.sn q.sc, .slice q.ra q.rn q.rc, .slice q.wa q.wn q.tc, .slice q.va q.vn q.vc]) ∧ P q w' ∧ Below ((w.alloc (.cells #[.slice none 0 0, .slice none 0 0, .slice none 0 0, .slice none 0 0] 29)).alloc (.cells #[.int .i64 0] 30)).heap.size ((w.alloc (.cells #[.slice none 0 0, .slice none 0 0, .slice none 0 0, .slice none 0 0] 29)).alloc (.cells #[.int .i64 0] 30)) w') := h
 have HP : Hid (∀ q w' i u j, (j = w.heap.size ∨ j = w.heap.size + 1) → P q w' → P q (w'.setCell ⟨j, i, none⟩ u)) := hP
 have HF : Hid (∀ w, Sem.run Tryz.prog (callFunc F cap) w = .ok (.enter F cap) w) := hF
 clear h hP hF
 go_enter_defers Tryz.func35, Tryz.ntmps35
 go_wp2_with fail
 rw [HF.out, Oper.upon_enter]
 refine H.out.mono ?_
 clear H
 rintro e w1 ⟨q, rfl, hq, hb⟩
 have e0 : w1.cell? ⟨w.heap.size + 1, 0, none⟩ = some (.int .i64 0) := ext_cell hb (at_new _ _ 30 _ 0 _ (by simp) rfl)
 have ef : ∀ j, w1.frozen? ⟨w.heap.size + 1, j, none⟩ = false := fun j => (hb.frozen (p := ⟨w.heap.size + 1, j, none⟩) (by simp)).trans (by simp)
 have c0 : w1.cell? ⟨w.heap.size, 0, none⟩ = some (.slice none 0 0) := ext_cell hb (ext_cell (grow_alloc (Below.refl _ _) _) (at_new w _ 29 _ 0 _ rfl rfl))
 have c1 : w1.cell? ⟨w.heap.size, 1, none⟩ = some (.slice none 0 0) := ext_cell hb (ext_cell (grow_alloc (Below.refl _ _) _) (at_new w _ 29 _ 1 _ rfl rfl))
 have c2 : w1.cell? ⟨w.heap.size, 2, none⟩ = some (.slice none 0 0) := ext_cell hb (ext_cell (grow_alloc (Below.refl _ _) _) (at_new w _ 29 _ 2 _ rfl rfl))
 have c3 : w1.cell? ⟨w.heap.size, 3, none⟩ = some (.slice none 0 0) := ext_cell hb (ext_cell (grow_alloc (Below.refl _ _) _) (at_new w _ 29 _ 3 _ rfl rfl))
 have cf : ∀ j, w1.frozen? ⟨w.heap.size, j, none⟩ = false := fun j => (hb.frozen (p := ⟨w.heap.size, j, none⟩) (by simp; omega)).trans (((grow_alloc (Below.refl (w.alloc (.cells #[.slice none 0 0, .slice none 0 0, .slice none 0 0, .slice none 0 0] 29)).heap.size (w.alloc (.cells #[.slice none 0 0, .slice none 0 0, .slice none 0 0, .slice none 0 0] 29))) (.cells #[.int .i64 0] 30)).frozen (p := ⟨w.heap.size, j, none⟩) (by simp)).trans (by simp))
 have HV : Hid (P q w1) := hq
 have B1 : Hid (Below w.heap.size w w1) := grow_trans (grow_alloc (grow_alloc (Below.refl _ _) _) _) hb
 clear hb hq
 go_wp2
 refine leaves_cons (f := 62) (args := #[.pointer (some ⟨w.heap.size + 1, 0, none⟩)]) (by simp) (by simp [go_sem]) ?_
 refine (catchSa_idle ⟨w.heap.size + 1, 0, none⟩ _).mono ?_
 rintro e u' w'' ⟨rfl, rfl, rfl⟩
 simp [Leaves, settle, results, Tryz.results35, go_sem, e0, c0, c1, c2, c3]
 refine ⟨q, by simp, ?_, ?_⟩
 ·exact HP.out _ _ 0 _ _ (.inr rfl) (HP.out _ _ 3 _ _ (.inl rfl) (HP.out _ _ 2 _ _ (.inl rfl) (HP.out _ _ 1 _ _ (.inl rfl) (HP.out _ _ 0 _ _ (.inl rfl) HV.out))))
 ·exact grow_set (grow_set (grow_set (grow_set (grow_set B1.out (Nat.le_refl _) _) (Nat.le_refl _) _) (Nat.le_refl _) _) (Nat.le_refl _) _) (by simp) _
set_option maxHeartbeats 1000000 in
theorem caughtSa_pan (F : FuncId) (cap : Array Value) (hF : ∀ w, Sem.run Tryz.prog (callFunc F cap) w = .ok (.enter F cap) w) (x : Int) (w : World)
  (h : Calls Tryz.prog F cap ((w.alloc (.cells #[.slice none 0 0, .slice none 0 0, .slice none 0 0, .slice none 0 0] 29)).alloc (.cells #[.int .i64 0] 30)) fun e w' => e = .panicked [{ v := .iface 30 (.int .i64 x), recovered := false }] ∧ Below ((w.alloc (.cells #[.slice none 0 0, .slice none 0 0, .slice none 0 0, .slice none 0 0] 29)).alloc (.cells #[.int .i64 0] 30)).heap.size ((w.alloc (.cells #[.slice none 0 0, .slice none 0 0, .slice none 0 0, .slice none 0 0] 29)).alloc (.cells #[.int .i64 0] 30)) w') :
  Calls Tryz.prog 35 #[.func (.func F) #[] cap] w fun e w' => e = .returned (.tuple #[.agg #[.slice none 0 0, .slice none 0 0, .slice none 0 0, .slice none 0 0], .int .i64 x]) ∧ Below w.heap.size w w' := by
 have hmf : ∀ (fn : Fn) (first cap : Array Value) (w : World), (Instr.makeFunc fn first cap).run Tryz.prog w = .ok (.func fn first cap) w := fun _ _ _ _ => rfl
 have H : Hid (Calls Tryz.prog F cap ((w.alloc (.cells #[.slice none 0 0, .slice none 0 0, .slice none 0 0, .slice none 0 0] 29)).alloc (.cells #[.int .i64 0] 30)) fun e w' => e = .panicked [{ v := .iface 30 (.int .i64 x), recovered := false }] ∧ Below ((w.alloc (.cells #[.slice none 0 0, .slice none 0 0, .slice none 0 0, .slice none 0 0] 29)).alloc (.cells #[.int .i64 0] 30)).heap.size ((w.alloc (.cells #[.slice none 0 0, .slice none 0 0, .slice none 0 0, .slice none 0 0] 29)).alloc (.cells #[.int .i64 0] 30)) w') := h
 have HF : Hid (∀ w, Sem.run Tryz.prog (callFunc F cap) w = .ok (.enter F cap) w) := hF
 clear h hF
 go_enter_defers Tryz.func35, Tryz.ntmps35
 go_wp2_with fail
 rw [HF.out, Oper.upon_enter]
 refine H.out.mono ?_
 clear H
 rintro e w1 ⟨rfl, hb⟩
 have e0 : w1.cell? ⟨w.heap.size + 1, 0, none⟩ = some (.int .i64 0) := ext_cell hb (at_new _ _ 30 _ 0 _ (by simp) rfl)
 have ef : w1.frozen? ⟨w.heap.size + 1, 0, none⟩ = false := (hb.frozen (p := ⟨w.heap.size + 1, 0, none⟩) (by simp)).trans (by simp)
 have c0 : w1.cell? ⟨w.heap.size, 0, none⟩ = some (.slice none 0 0) := ext_cell hb (ext_cell (grow_alloc (Below.refl _ _) _) (at_new w _ 29 _ 0 _ rfl rfl))
 have c1 : w1.cell? ⟨w.heap.size, 1, none⟩ = some (.slice none 0 0) := ext_cell hb (ext_cell (grow_alloc (Below.refl _ _) _) (at_new w _ 29 _ 1 _ rfl rfl))
 have c2 : w1.cell? ⟨w.heap.size, 2, none⟩ = some (.slice none 0 0) := ext_cell hb (ext_cell (grow_alloc (Below.refl _ _) _) (at_new w _ 29 _ 2 _ rfl rfl))
 have c3 : w1.cell? ⟨w.heap.size, 3, none⟩ = some (.slice none 0 0) := ext_cell hb (ext_cell (grow_alloc (Below.refl _ _) _) (at_new w _ 29 _ 3 _ rfl rfl))
 have B1 : Below w.heap.size w w1 := grow_trans (grow_alloc (grow_alloc (Below.refl _ _) _) _) hb
 clear hb
 refine leaves_cons (f := 62) (args := #[.pointer (some ⟨w.heap.size + 1, 0, none⟩)]) (by simp) (by simp [go_sem]) ?_
 refine (catchSa_panicking ⟨w.heap.size + 1, 0, none⟩ x 0 [] _ e0 ef).mono ?_
 rintro e u' w'' ⟨rfl, rfl, rfl⟩
 simp [Leaves, settle, results, Tryz.results35, go_sem, e0, c0, c1, c2, c3]
 exact grow_set B1 (by simp) _
end Go.Proofs.YtcgpkonfneofdaaGreat
