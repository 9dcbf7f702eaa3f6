/-
  
  Conditions: those that each theorem states.
-/
import Derived.Test.YtcgpkonfneofdaaGreatSPlaceC
set_option maxRecDepth 100000
namespace Go.Proofs.YtcgpkonfneofdaaGreat
open Go.RowKit
theorem catchB_idle (p : Addr) (w : World) :
  CallsD Tryz.prog 117 #[.pointer (some p)] .returning w fun e u' w' => e = .returned (.tuple #[]) ∧ u' = .returning ∧ w' = w := by
 refine callsD_of_wpS Tryz.func117 rfl fun c₀ cs hu => ?_
 apply wpS_seq
 apply wpS_region
 simp [wpOpsS, go_sem, recoverD, hu, Tryz.ntmps117, Exit.thenS]
 apply wpS_seq
 apply wpS_region
 simp [wpOpsS, go_sem, Exit.thenS]
 refine wpS_cond (t := false) (by simp [Act.eval, Array.replicate]) ?_
 simp only [Bool.false_eq_true, if_false]
 refine wpS_of_wp (wp_skip ?_)
 cases c₀
 simp_all [bodyPostS, results, Tryz.results117]
theorem caught_part_ret (cap : Array Value) (sh : Nat) (bs : List Bool) (w : World)
  (h : Calls Tryz.prog 94 cap (w.alloc (.cells #[.int .i64 0] 30)) fun e w' => ∃ g c, e = .returned (.slice (some ⟨g, 0, none⟩) sh c) ∧ w'.ownsRow (w.alloc (.cells #[.int .i64 0] 30)).heap.size 4 1 (.slice (some ⟨g, 0, none⟩) sh c) sh (bs.map Value.bool) ∧ Below (w.alloc (.cells #[.int .i64 0] 30)).heap.size (w.alloc (.cells #[.int .i64 0] 30)) w') :
  Calls Tryz.prog 93 #[.func (.func 94) #[] cap] w fun e w' => ∃ g c, e = .returned (.tuple #[.slice (some ⟨g, 0, none⟩) sh c, .int .i64 0]) ∧ w'.ownsRow w.heap.size 4 1 (.slice (some ⟨g, 0, none⟩) sh c) sh (bs.map Value.bool) ∧ Below w.heap.size w w' := by
 have hmf : ∀ (fn : Fn) (first cap : Array Value) (w : World), (Instr.makeFunc fn first cap).run Tryz.prog w = .ok (.func fn first cap) w := fun _ _ _ _ => rfl
 have H : Hid (Calls Tryz.prog 94 cap (w.alloc (.cells #[.int .i64 0] 30)) fun e w' => ∃ g c, e = .returned (.slice (some ⟨g, 0, none⟩) sh c) ∧ w'.ownsRow (w.alloc (.cells #[.int .i64 0] 30)).heap.size 4 1 (.slice (some ⟨g, 0, none⟩) sh c) sh (bs.map Value.bool) ∧ Below (w.alloc (.cells #[.int .i64 0] 30)).heap.size (w.alloc (.cells #[.int .i64 0] 30)) w') := h
 clear h
 go_enter_defers Tryz.func93, Tryz.ntmps93
 go_wp2_with fail
 refine H.out.mono ?_
 clear H
 rintro e w1 ⟨g, c, rfl, ho, hb⟩
 have hc : w1.cell? ⟨w.heap.size, 0, none⟩ = some (.int .i64 0) := by rw [hb.cell (by simp)]; simp
 have hf : w1.frozen? ⟨w.heap.size, 0, none⟩ = false := by rw [hb.frozen (by simp)]; simp
 have hB : Hid (Below w.heap.size w w1) := grow_trans (grow_alloc (Below.refl _ _) _) hb
 have hgl : w.heap.size < g := by
  have := (ho.lt g (by simp [Value.ownBlock])).1
  simp at this
  omega
 have hO : Hid (w1.ownsRow w.heap.size 4 1 (.slice (some ⟨g, 0, none⟩) sh c) sh (bs.map Value.bool)) := own_low ho (by simp)
 clear hb ho
 go_wp2
 refine leaves_cons (f := 117) (args := #[.pointer (some ⟨w.heap.size, 0, none⟩)]) (by simp) (by simp [go_sem]) ?_
 refine (catchB_idle ⟨w.heap.size, 0, none⟩ _).mono ?_
 rintro e u' w'' ⟨rfl, rfl, rfl⟩
 simp [Leaves, settle, results, Tryz.results93, go_sem, hc]
 refine ⟨g, c, ⟨rfl, rfl⟩, ?_, ?_⟩
 ·exact hO.out.kept (grown_one w1 w.heap.size 0 _) (.inr (by simp [Value.ownBlock]; omega))
 ·exact grow_set hB.out (Nat.le_refl _) _
theorem caught_active_ret (cap : Array Value) (sh : Nat) (bs : List Bool) (w : World)
  (h : Calls Tryz.prog 97 cap (w.alloc (.cells #[.int .i64 0] 30)) fun e w' => ∃ g c, e = .returned (.slice (some ⟨g, 0, none⟩) sh c) ∧ w'.ownsRow (w.alloc (.cells #[.int .i64 0] 30)).heap.size 4 1 (.slice (some ⟨g, 0, none⟩) sh c) sh (bs.map Value.bool) ∧ Below (w.alloc (.cells #[.int .i64 0] 30)).heap.size (w.alloc (.cells #[.int .i64 0] 30)) w') :
  Calls Tryz.prog 93 #[.func (.func 97) #[] cap] w fun e w' => ∃ g c, e = .returned (.tuple #[.slice (some ⟨g, 0, none⟩) sh c, .int .i64 0]) ∧ w'.ownsRow w.heap.size 4 1 (.slice (some ⟨g, 0, none⟩) sh c) sh (bs.map Value.bool) ∧ Below w.heap.size w w' := by
 have hmf : ∀ (fn : Fn) (first cap : Array Value) (w : World), (Instr.makeFunc fn first cap).run Tryz.prog w = .ok (.func fn first cap) w := fun _ _ _ _ => rfl
 have H : Hid (Calls Tryz.prog 97 cap (w.alloc (.cells #[.int .i64 0] 30)) fun e w' => ∃ g c, e = .returned (.slice (some ⟨g, 0, none⟩) sh c) ∧ w'.ownsRow (w.alloc (.cells #[.int .i64 0] 30)).heap.size 4 1 (.slice (some ⟨g, 0, none⟩) sh c) sh (bs.map Value.bool) ∧ Below (w.alloc (.cells #[.int .i64 0] 30)).heap.size (w.alloc (.cells #[.int .i64 0] 30)) w') := h
 clear h
 go_enter_defers Tryz.func93, Tryz.ntmps93
 go_wp2_with fail
 refine H.out.mono ?_
 clear H
 rintro e w1 ⟨g, c, rfl, ho, hb⟩
 have hc : w1.cell? ⟨w.heap.size, 0, none⟩ = some (.int .i64 0) := by rw [hb.cell (by simp)]; simp
 have hf : w1.frozen? ⟨w.heap.size, 0, none⟩ = false := by rw [hb.frozen (by simp)]; simp
 have hB : Hid (Below w.heap.size w w1) := grow_trans (grow_alloc (Below.refl _ _) _) hb
 have hgl : w.heap.size < g := by
  have := (ho.lt g (by simp [Value.ownBlock])).1
  simp at this
  omega
 have hO : Hid (w1.ownsRow w.heap.size 4 1 (.slice (some ⟨g, 0, none⟩) sh c) sh (bs.map Value.bool)) := own_low ho (by simp)
 clear hb ho
 go_wp2
 refine leaves_cons (f := 117) (args := #[.pointer (some ⟨w.heap.size, 0, none⟩)]) (by simp) (by simp [go_sem]) ?_
 refine (catchB_idle ⟨w.heap.size, 0, none⟩ _).mono ?_
 rintro e u' w'' ⟨rfl, rfl, rfl⟩
 simp [Leaves, settle, results, Tryz.results93, go_sem, hc]
 refine ⟨g, c, ⟨rfl, rfl⟩, ?_, ?_⟩
 ·exact hO.out.kept (grown_one w1 w.heap.size 0 _) (.inr (by simp [Value.ownBlock]; omega))
 ·exact grow_set hB.out (Nat.le_refl _) _
variable (la : Option Addr) (lc : Nat) (l : List TxA) (m n : Int)
end Go.Proofs.YtcgpkonfneofdaaGreat
