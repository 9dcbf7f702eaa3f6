/-
  
  Conditions: those that each theorem states.
-/
import Derived.Test.YtebjkmknhpgemaaGreatUPlaceC
set_option maxRecDepth 100000
namespace Go.Proofs.YtebjkmknhpgemaaGreat
open Go.RowKit
theorem nD (p : Addr) (w : World) :
  CallsD Tryz.prog 127 #[.pointer (some p)] .returning w fun e u' w' => e = .returned (.tuple #[]) ∧ u' = .returning ∧ w' = w := by
 refine callsD_of_wpS Tryz.func127 rfl fun c₀ cs hu => ?_
 apply wpS_seq
 apply wpS_region
 simp [wpOpsS, go_sem, recoverD, hu, Tryz.ntmps127, Exit.thenS]
 apply wpS_seq
 apply wpS_region
 simp [wpOpsS, go_sem, Exit.thenS]
 refine wpS_cond (t := false) (by simp [Act.eval, Array.replicate]) ?_
 simp only [Bool.false_eq_true, if_false]
 refine wpS_of_wp (wp_skip ?_)
 cases c₀
 simp_all [bodyPostS, results, Tryz.results127]
theorem nK (cap : Array Value) (sh : Nat) (bs : List Bool) (w : World)
  (h : Calls Tryz.prog 88 cap (w.alloc (.cells #[.int .i64 0] 30)) fun e w' => ∃ g c, e = .returned (.slice (some ⟨g, 0, none⟩) sh c) ∧ w'.ownsRow (w.alloc (.cells #[.int .i64 0] 30)).heap.size 4 1 (.slice (some ⟨g, 0, none⟩) sh c) sh (bs.map Value.bool) ∧ Below (w.alloc (.cells #[.int .i64 0] 30)).heap.size (w.alloc (.cells #[.int .i64 0] 30)) w') :
  Calls Tryz.prog 87 #[.func (.func 88) #[] cap] w fun e w' => ∃ g c, e = .returned (.tuple #[.slice (some ⟨g, 0, none⟩) sh c, .int .i64 0]) ∧ w'.ownsRow w.heap.size 4 1 (.slice (some ⟨g, 0, none⟩) sh c) sh (bs.map Value.bool) ∧ Below w.heap.size w w' := by
 have hmf : ∀ (fn : Fn) (first cap : Array Value) (w : World), (Instr.makeFunc fn first cap).run Tryz.prog w = .ok (.func fn first cap) w := fun _ _ _ _ => rfl
 have H : Hid (Calls Tryz.prog 88 cap (w.alloc (.cells #[.int .i64 0] 30)) fun e w' => ∃ g c, e = .returned (.slice (some ⟨g, 0, none⟩) sh c) ∧ w'.ownsRow (w.alloc (.cells #[.int .i64 0] 30)).heap.size 4 1 (.slice (some ⟨g, 0, none⟩) sh c) sh (bs.map Value.bool) ∧ Below (w.alloc (.cells #[.int .i64 0] 30)).heap.size (w.alloc (.cells #[.int .i64 0] 30)) w') := h
 clear h
 go_enter_defers Tryz.func87, Tryz.ntmps87
 go_wp2_with fail
 refine H.out.mono ?_
 clear H
 rintro e w1 ⟨g, c, rfl, ho, hb⟩
 have hc : w1.cell? ⟨w.heap.size, 0, none⟩ = some (.int .i64 0) := by rw [hb.cell (by simp)]; simp
 have hf : w1.frozen? ⟨w.heap.size, 0, none⟩ = false := by rw [hb.frozen (by simp)]; simp
 have hB : Hid (Below w.heap.size w w1) := aC (aB (Below.refl _ _) _) hb
 have hgl : w.heap.size < g := by
  have := (ho.lt g (by simp [Value.ownBlock])).1
  simp at this
  omega
 have hO : Hid (w1.ownsRow w.heap.size 4 1 (.slice (some ⟨g, 0, none⟩) sh c) sh (bs.map Value.bool)) := gZ ho (by simp)
 clear hb ho
 go_wp2
 refine leaves_cons (f := 127) (args := #[.pointer (some ⟨w.heap.size, 0, none⟩)]) (by simp) (by simp [go_sem]) ?_
 refine (nD ⟨w.heap.size, 0, none⟩ _).mono ?_
 rintro e u' w'' ⟨rfl, rfl, rfl⟩
 simp [Leaves, settle, results, Tryz.results87, go_sem, hc]
 refine ⟨g, c, ⟨rfl, rfl⟩, ?_, ?_⟩
 ·exact hO.out.kept (gM w1 w.heap.size 0 _) (.inr (by simp [Value.ownBlock]; omega))
 ·exact aG hB.out (Nat.le_refl _) _
theorem lG (cap : Array Value) (sh : Nat) (bs : List Bool) (w : World)
  (h : Calls Tryz.prog 91 cap (w.alloc (.cells #[.int .i64 0] 30)) fun e w' => ∃ g c, e = .returned (.slice (some ⟨g, 0, none⟩) sh c) ∧ w'.ownsRow (w.alloc (.cells #[.int .i64 0] 30)).heap.size 4 1 (.slice (some ⟨g, 0, none⟩) sh c) sh (bs.map Value.bool) ∧ Below (w.alloc (.cells #[.int .i64 0] 30)).heap.size (w.alloc (.cells #[.int .i64 0] 30)) w') :
  Calls Tryz.prog 87 #[.func (.func 91) #[] cap] w fun e w' => ∃ g c, e = .returned (.tuple #[.slice (some ⟨g, 0, none⟩) sh c, .int .i64 0]) ∧ w'.ownsRow w.heap.size 4 1 (.slice (some ⟨g, 0, none⟩) sh c) sh (bs.map Value.bool) ∧ Below w.heap.size w w' := by
 have hmf : ∀ (fn : Fn) (first cap : Array Value) (w : World), (Instr.makeFunc fn first cap).run Tryz.prog w = .ok (.func fn first cap) w := fun _ _ _ _ => rfl
 have H : Hid (Calls Tryz.prog 91 cap (w.alloc (.cells #[.int .i64 0] 30)) fun e w' => ∃ g c, e = .returned (.slice (some ⟨g, 0, none⟩) sh c) ∧ w'.ownsRow (w.alloc (.cells #[.int .i64 0] 30)).heap.size 4 1 (.slice (some ⟨g, 0, none⟩) sh c) sh (bs.map Value.bool) ∧ Below (w.alloc (.cells #[.int .i64 0] 30)).heap.size (w.alloc (.cells #[.int .i64 0] 30)) w') := h
 clear h
 go_enter_defers Tryz.func87, Tryz.ntmps87
 go_wp2_with fail
 refine H.out.mono ?_
 clear H
 rintro e w1 ⟨g, c, rfl, ho, hb⟩
 have hc : w1.cell? ⟨w.heap.size, 0, none⟩ = some (.int .i64 0) := by rw [hb.cell (by simp)]; simp
 have hf : w1.frozen? ⟨w.heap.size, 0, none⟩ = false := by rw [hb.frozen (by simp)]; simp
 have hB : Hid (Below w.heap.size w w1) := aC (aB (Below.refl _ _) _) hb
 have hgl : w.heap.size < g := by
  have := (ho.lt g (by simp [Value.ownBlock])).1
  simp at this
  omega
 have hO : Hid (w1.ownsRow w.heap.size 4 1 (.slice (some ⟨g, 0, none⟩) sh c) sh (bs.map Value.bool)) := gZ ho (by simp)
 clear hb ho
 go_wp2
 refine leaves_cons (f := 127) (args := #[.pointer (some ⟨w.heap.size, 0, none⟩)]) (by simp) (by simp [go_sem]) ?_
 refine (nD ⟨w.heap.size, 0, none⟩ _).mono ?_
 rintro e u' w'' ⟨rfl, rfl, rfl⟩
 simp [Leaves, settle, results, Tryz.results87, go_sem, hc]
 refine ⟨g, c, ⟨rfl, rfl⟩, ?_, ?_⟩
 ·exact hO.out.kept (gM w1 w.heap.size 0 _) (.inr (by simp [Value.ownBlock]; omega))
 ·exact aG hB.out (Nat.le_refl _) _
variable (la : Option Addr) (lc : Nat) (l : List TxA) (m n : Int)
end Go.Proofs.YtebjkmknhpgemaaGreat
