/-
  place.Part and place.Active, with fault.Caught around them.
  Conditions: the plan's transactions can be read.
-/
import Derived.Test.YtebjkmknhpgemaaGreatPlaceC
import Derived.WalkKit
import Derived.WalkSpells
import Derived.WalkLawsBesides
import Derived.Defers
import Derived.Recover
import Derived.ProofKit
import Derived.Deep.RegionHeld
import Derived.Deep.RegionHeld3
import Derived.BigQuiet
namespace Go.Proofs.YtebjkmknhpgemaaGreat
open Go.RowKit

set_option maxRecDepth 100000 in
theorem catchB_panicking (p : Addr) (x y : Int) (older : List PanicEntry) (w : World) (hc : w.cell? p = some (.int .i64 y)) (hz : w.frozen? p = false) :
    CallsD Tryz.prog 127 #[.pointer (some p)] (.panicking ({ v := .iface 30 (.int .i64 x), recovered := false } :: older)) w fun e u' w' =>
      e = .returned (.tuple #[]) ∧ u' = .panicking ({ v := .iface 30 (.int .i64 x), recovered := true } :: older) ∧ w' = w.setCell p (.int .i64 x) := by
  refine callsD_of_wpS Tryz.func127 rfl fun c₀ cs hu => ?_
  apply wpS_seq
  apply wpS_region
  simp [wpOpsS, go_sem, recoverD, hu, Tryz.ntmps127, Exit.thenS]
  apply wpS_seq
  apply wpS_region
  simp [wpOpsS, go_sem, Exit.thenS]
  refine wpS_cond (t := true) (by simp [Act.eval, Array.replicate]) ?_
  simp only [if_true]
  apply wpS_region
  simp [wpOpsS, go_sem, assert_errno, hc, hz, bodyPostS, results, Tryz.results127]

set_option maxRecDepth 100000 in
theorem catchB_idle (p : Addr) (w : World) :
    CallsD Tryz.prog 127 #[.pointer (some p)] .returning w fun e u' w' => e = .returned (.tuple #[]) ∧ u' = .returning ∧ w' = w := by
  refine callsD_of_wpS Tryz.func127 rfl fun c₀ cs hu => ?_
  apply wpS_seq
  apply wpS_region
  simp [wpOpsS, go_sem, recoverD, hu, Tryz.ntmps127, Exit.thenS]
  apply wpS_seq
  apply wpS_region
  simp [wpOpsS, go_sem, Exit.thenS]
  refine wpS_cond (t := false) (by simp [Act.eval, Array.replicate]) ?_
  simp only [Bool.false_eq_true, if_false]
  refine wpS_of_wp (wp_skip ?_)
  cases c₀
  simp_all [bodyPostS, results, Tryz.results127]

set_option maxRecDepth 100000 in
theorem caught_part_ret (cap : Array Value) (sh : Nat) (bs : List Bool) (w : World)
    (h : Calls Tryz.prog 88 cap (w.alloc (.cells #[.int .i64 0] 30)) fun e w' => ∃ g c, e = .returned (.slice (some ⟨g, 0, none⟩) sh c) ∧ w'.ownsRow (w.alloc (.cells #[.int .i64 0] 30)).heap.size 4 1 (.slice (some ⟨g, 0, none⟩) sh c) sh (bs.map Value.bool) ∧ Below (w.alloc (.cells #[.int .i64 0] 30)).heap.size (w.alloc (.cells #[.int .i64 0] 30)) w') :
    Calls Tryz.prog 87 #[.func (.func 88) #[] cap] w fun e w' => ∃ g c, e = .returned (.tuple #[.slice (some ⟨g, 0, none⟩) sh c, .int .i64 0]) ∧ w'.ownsRow w.heap.size 4 1 (.slice (some ⟨g, 0, none⟩) sh c) sh (bs.map Value.bool) ∧ Below w.heap.size w w' := by
  have hmf : ∀ (fn : Fn) (first cap : Array Value) (w : World), (Instr.makeFunc fn first cap).run Tryz.prog w = .ok (.func fn first cap) w := fun _ _ _ _ => rfl
  have H : Hid (Calls Tryz.prog 88 cap (w.alloc (.cells #[.int .i64 0] 30)) fun e w' => ∃ g c, e = .returned (.slice (some ⟨g, 0, none⟩) sh c) ∧ w'.ownsRow (w.alloc (.cells #[.int .i64 0] 30)).heap.size 4 1 (.slice (some ⟨g, 0, none⟩) sh c) sh (bs.map Value.bool) ∧ Below (w.alloc (.cells #[.int .i64 0] 30)).heap.size (w.alloc (.cells #[.int .i64 0] 30)) w') := h
  clear h
  go_enter_defers Tryz.func87, Tryz.ntmps87
  go_wp2_with fail
  refine H.out.mono ?_
  clear H
  rintro e w1 ⟨g, c, rfl, ho, hb⟩
  have hc : w1.cell? ⟨w.heap.size, 0, none⟩ = some (.int .i64 0) := by rw [hb.cell (by simp)]; simp
  have hf : w1.frozen? ⟨w.heap.size, 0, none⟩ = false := by rw [hb.frozen (by simp)]; simp
  have hB : Hid (Below w.heap.size w w1) := grow_trans (grow_alloc (Below.refl _ _) _) hb
  have hgl : w.heap.size < g := by
    have := (ho.lt g (by simp [Value.ownBlock])).1
    simp at this
    omega
  have hO : Hid (w1.ownsRow w.heap.size 4 1 (.slice (some ⟨g, 0, none⟩) sh c) sh (bs.map Value.bool)) := own_low ho (by simp)
  clear hb ho
  go_wp2
  refine leaves_cons (f := 127) (args := #[.pointer (some ⟨w.heap.size, 0, none⟩)]) (by simp) (by simp [go_sem]) ?_
  refine (catchB_idle ⟨w.heap.size, 0, none⟩ _).mono ?_
  rintro e u' w'' ⟨rfl, rfl, rfl⟩
  simp [Leaves, settle, results, Tryz.results87, go_sem, hc]
  refine ⟨g, c, ⟨rfl, rfl⟩, ?_, ?_⟩
  · exact hO.out.kept (grown_one w1 w.heap.size 0 _) (.inr (by simp [Value.ownBlock]; omega))
  · exact grow_set hB.out (Nat.le_refl _) _

set_option maxRecDepth 100000 in
theorem caught_part_pan (cap : Array Value) (x : Int) (w : World)
    (h : Calls Tryz.prog 88 cap (w.alloc (.cells #[.int .i64 0] 30)) fun e w' => e = .panicked [{ v := .iface 30 (.int .i64 x), recovered := false }] ∧ Below (w.alloc (.cells #[.int .i64 0] 30)).heap.size (w.alloc (.cells #[.int .i64 0] 30)) w') :
    Calls Tryz.prog 87 #[.func (.func 88) #[] cap] w fun e w' => e = .returned (.tuple #[.slice none 0 0, .int .i64 x]) ∧ Below w.heap.size w w' := by
  have hmf : ∀ (fn : Fn) (first cap : Array Value) (w : World), (Instr.makeFunc fn first cap).run Tryz.prog w = .ok (.func fn first cap) w := fun _ _ _ _ => rfl
  have H : Hid (Calls Tryz.prog 88 cap (w.alloc (.cells #[.int .i64 0] 30)) fun e w' => e = .panicked [{ v := .iface 30 (.int .i64 x), recovered := false }] ∧ Below (w.alloc (.cells #[.int .i64 0] 30)).heap.size (w.alloc (.cells #[.int .i64 0] 30)) w') := h
  clear h
  go_enter_defers Tryz.func87, Tryz.ntmps87
  go_wp2_with fail
  refine H.out.mono ?_
  clear H
  rintro e w1 ⟨rfl, hb⟩
  have hc : w1.cell? ⟨w.heap.size, 0, none⟩ = some (.int .i64 0) := by rw [hb.cell (by simp)]; simp
  have hf : w1.frozen? ⟨w.heap.size, 0, none⟩ = false := by rw [hb.frozen (by simp)]; simp
  have hB : Hid (Below w.heap.size w w1) := grow_trans (grow_alloc (Below.refl _ _) _) hb
  clear hb
  refine leaves_cons (f := 127) (args := #[.pointer (some ⟨w.heap.size, 0, none⟩)]) (by simp) (by simp [go_sem]) ?_
  refine (catchB_panicking ⟨w.heap.size, 0, none⟩ x 0 [] _ hc hf).mono ?_
  rintro e u' w'' ⟨rfl, rfl, rfl⟩
  simp [Leaves, settle, results, Tryz.results87, go_sem, hc]
  exact grow_set hB.out (Nat.le_refl _) _

set_option maxRecDepth 100000 in
theorem caught_active_ret (cap : Array Value) (sh : Nat) (bs : List Bool) (w : World)
    (h : Calls Tryz.prog 91 cap (w.alloc (.cells #[.int .i64 0] 30)) fun e w' => ∃ g c, e = .returned (.slice (some ⟨g, 0, none⟩) sh c) ∧ w'.ownsRow (w.alloc (.cells #[.int .i64 0] 30)).heap.size 4 1 (.slice (some ⟨g, 0, none⟩) sh c) sh (bs.map Value.bool) ∧ Below (w.alloc (.cells #[.int .i64 0] 30)).heap.size (w.alloc (.cells #[.int .i64 0] 30)) w') :
    Calls Tryz.prog 87 #[.func (.func 91) #[] cap] w fun e w' => ∃ g c, e = .returned (.tuple #[.slice (some ⟨g, 0, none⟩) sh c, .int .i64 0]) ∧ w'.ownsRow w.heap.size 4 1 (.slice (some ⟨g, 0, none⟩) sh c) sh (bs.map Value.bool) ∧ Below w.heap.size w w' := by
  have hmf : ∀ (fn : Fn) (first cap : Array Value) (w : World), (Instr.makeFunc fn first cap).run Tryz.prog w = .ok (.func fn first cap) w := fun _ _ _ _ => rfl
  have H : Hid (Calls Tryz.prog 91 cap (w.alloc (.cells #[.int .i64 0] 30)) fun e w' => ∃ g c, e = .returned (.slice (some ⟨g, 0, none⟩) sh c) ∧ w'.ownsRow (w.alloc (.cells #[.int .i64 0] 30)).heap.size 4 1 (.slice (some ⟨g, 0, none⟩) sh c) sh (bs.map Value.bool) ∧ Below (w.alloc (.cells #[.int .i64 0] 30)).heap.size (w.alloc (.cells #[.int .i64 0] 30)) w') := h
  clear h
  go_enter_defers Tryz.func87, Tryz.ntmps87
  go_wp2_with fail
  refine H.out.mono ?_
  clear H
  rintro e w1 ⟨g, c, rfl, ho, hb⟩
  have hc : w1.cell? ⟨w.heap.size, 0, none⟩ = some (.int .i64 0) := by rw [hb.cell (by simp)]; simp
  have hf : w1.frozen? ⟨w.heap.size, 0, none⟩ = false := by rw [hb.frozen (by simp)]; simp
  have hB : Hid (Below w.heap.size w w1) := grow_trans (grow_alloc (Below.refl _ _) _) hb
  have hgl : w.heap.size < g := by
    have := (ho.lt g (by simp [Value.ownBlock])).1
    simp at this
    omega
  have hO : Hid (w1.ownsRow w.heap.size 4 1 (.slice (some ⟨g, 0, none⟩) sh c) sh (bs.map Value.bool)) := own_low ho (by simp)
  clear hb ho
  go_wp2
  refine leaves_cons (f := 127) (args := #[.pointer (some ⟨w.heap.size, 0, none⟩)]) (by simp) (by simp [go_sem]) ?_
  refine (catchB_idle ⟨w.heap.size, 0, none⟩ _).mono ?_
  rintro e u' w'' ⟨rfl, rfl, rfl⟩
  simp [Leaves, settle, results, Tryz.results87, go_sem, hc]
  refine ⟨g, c, ⟨rfl, rfl⟩, ?_, ?_⟩
  · exact hO.out.kept (grown_one w1 w.heap.size 0 _) (.inr (by simp [Value.ownBlock]; omega))
  · exact grow_set hB.out (Nat.le_refl _) _

set_option maxRecDepth 100000 in
theorem caught_active_pan (cap : Array Value) (x : Int) (w : World)
    (h : Calls Tryz.prog 91 cap (w.alloc (.cells #[.int .i64 0] 30)) fun e w' => e = .panicked [{ v := .iface 30 (.int .i64 x), recovered := false }] ∧ Below (w.alloc (.cells #[.int .i64 0] 30)).heap.size (w.alloc (.cells #[.int .i64 0] 30)) w') :
    Calls Tryz.prog 87 #[.func (.func 91) #[] cap] w fun e w' => e = .returned (.tuple #[.slice none 0 0, .int .i64 x]) ∧ Below w.heap.size w w' := by
  have hmf : ∀ (fn : Fn) (first cap : Array Value) (w : World), (Instr.makeFunc fn first cap).run Tryz.prog w = .ok (.func fn first cap) w := fun _ _ _ _ => rfl
  have H : Hid (Calls Tryz.prog 91 cap (w.alloc (.cells #[.int .i64 0] 30)) fun e w' => e = .panicked [{ v := .iface 30 (.int .i64 x), recovered := false }] ∧ Below (w.alloc (.cells #[.int .i64 0] 30)).heap.size (w.alloc (.cells #[.int .i64 0] 30)) w') := h
  clear h
  go_enter_defers Tryz.func87, Tryz.ntmps87
  go_wp2_with fail
  refine H.out.mono ?_
  clear H
  rintro e w1 ⟨rfl, hb⟩
  have hc : w1.cell? ⟨w.heap.size, 0, none⟩ = some (.int .i64 0) := by rw [hb.cell (by simp)]; simp
  have hf : w1.frozen? ⟨w.heap.size, 0, none⟩ = false := by rw [hb.frozen (by simp)]; simp
  have hB : Hid (Below w.heap.size w w1) := grow_trans (grow_alloc (Below.refl _ _) _) hb
  clear hb
  refine leaves_cons (f := 127) (args := #[.pointer (some ⟨w.heap.size, 0, none⟩)]) (by simp) (by simp [go_sem]) ?_
  refine (catchB_panicking ⟨w.heap.size, 0, none⟩ x 0 [] _ hc hf).mono ?_
  rintro e u' w'' ⟨rfl, rfl, rfl⟩
  simp [Leaves, settle, results, Tryz.results87, go_sem, hc]
  exact grow_set hB.out (Nat.le_refl _) _

/-- What Part and Active tell: nothing, if there is an error. -/
def partL (m : Int) (l : List TxA) (n : Int) : List Bool := if pnE m l n = 0 then marks m.toNat (keysIn (locksAt l n.toNat)) else []
def activeL (m : Int) (l : List TxA) (n : Int) : List Bool := if pnE m l n = 0 then marks m.toNat (setsIn (locksAt l n.toNat)) else []

variable (la : Option Addr) (lc : Nat) (l : List TxA) (m n : Int)

set_option maxRecDepth 100000 in
set_option maxHeartbeats 1000000 in
theorem part_by (bs : List Bool) (x : Int) (w : World)
    (h : Calls Tryz.prog 87 #[.func (.func 88) #[] #[.pointer (some ⟨w.heap.size, 0, none⟩), .pointer (some ⟨w.heap.size + 1, 0, none⟩)]] ((w.alloc (.cells #[.int .i64 m, .slice la l.length lc] 24)).alloc (.cells #[.int .i64 n] 3)) fun e w' => ∃ a c, e = .returned (.tuple #[.slice a bs.length c, .int .i64 x]) ∧ IsBools w' a bs ∧ Below ((w.alloc (.cells #[.int .i64 m, .slice la l.length lc] 24)).alloc (.cells #[.int .i64 n] 3)).heap.size ((w.alloc (.cells #[.int .i64 m, .slice la l.length lc] 24)).alloc (.cells #[.int .i64 n] 3)) w') :
    Calls Tryz.prog 38 #[.agg #[.int .i64 m, .slice la l.length lc], .int .i64 n] w fun e w' => ∃ a c, e = .returned (.tuple #[.slice a bs.length c, .int .i64 x]) ∧ IsBools w' a bs ∧ Below w.heap.size w w' := by
  have hmf : ∀ (fn : Fn) (first cap : Array Value) (w : World), (Instr.makeFunc fn first cap).run Tryz.prog w = .ok (.func fn first cap) w := fun _ _ _ _ => rfl
  have H : Hid (Calls Tryz.prog 87 #[.func (.func 88) #[] #[.pointer (some ⟨w.heap.size, 0, none⟩), .pointer (some ⟨w.heap.size + 1, 0, none⟩)]] ((w.alloc (.cells #[.int .i64 m, .slice la l.length lc] 24)).alloc (.cells #[.int .i64 n] 3)) fun e w' => ∃ a c, e = .returned (.tuple #[.slice a bs.length c, .int .i64 x]) ∧ IsBools w' a bs ∧ Below ((w.alloc (.cells #[.int .i64 m, .slice la l.length lc] 24)).alloc (.cells #[.int .i64 n] 3)).heap.size ((w.alloc (.cells #[.int .i64 m, .slice la l.length lc] 24)).alloc (.cells #[.int .i64 n] 3)) w') := h
  clear h
  go_enter Tryz.func38, Tryz.ntmps38
  go_wp2_with fail
  refine H.out.mono ?_
  clear H
  rintro e w1 ⟨a, c, rfl, ho, hb⟩
  have hB : Hid (Below w.heap.size w w1) := grow_trans (grow_alloc (grow_alloc (Below.refl _ _) _) _) hb
  have hO : Hid (IsBools w1 a bs) := ho
  clear hb ho
  go_wp2
  go_ret2
  exact ⟨a, c, rfl, hO.out, hB.out⟩

set_option maxRecDepth 100000 in
theorem part_any (w : World) (hl : IsTxs w la l) :
    Calls Tryz.prog 38 #[.agg #[.int .i64 m, .slice la l.length lc], .int .i64 n] w fun e w' => ∃ a c, e = .returned (.tuple #[.slice a (partL m l n).length c, .int .i64 (pnE m l n)]) ∧ IsBools w' a (partL m l n) ∧ Below w.heap.size w w' := by
  have hg : Below w.heap.size w (((w.alloc (.cells #[.int .i64 m, .slice la l.length lc] 24)).alloc (.cells #[.int .i64 n] 3)).alloc (.cells #[.int .i64 0] 30)) := grow_alloc (grow_alloc (grow_alloc (Below.refl _ _) _) _) _
  have h0 : (((w.alloc (.cells #[.int .i64 m, .slice la l.length lc] 24)).alloc (.cells #[.int .i64 n] 3)).alloc (.cells #[.int .i64 0] 30)).cell? ⟨w.heap.size, 0, none⟩ = some (.int .i64 m) := by
    rw [World.cell?_alloc_lt _ _ _ (by simp; omega), World.cell?_alloc_lt _ _ _ (by simp)]; simp
  have h1 : (((w.alloc (.cells #[.int .i64 m, .slice la l.length lc] 24)).alloc (.cells #[.int .i64 n] 3)).alloc (.cells #[.int .i64 0] 30)).cell? ⟨w.heap.size, 1, none⟩ = some (.slice la l.length lc) := by
    rw [World.cell?_alloc_lt _ _ _ (by simp; omega), World.cell?_alloc_lt _ _ _ (by simp)]; simp
  have h2 : (((w.alloc (.cells #[.int .i64 m, .slice la l.length lc] 24)).alloc (.cells #[.int .i64 n] 3)).alloc (.cells #[.int .i64 0] 30)).cell? ⟨w.heap.size + 1, 0, none⟩ = some (.int .i64 n) := by
    rw [World.cell?_alloc_lt _ _ _ (by simp)]; simp
  refine part_by la lc l m n _ _ w ?_
  by_cases he : pnE m l n = 0
  · have hp := planE_zero (pnE_zero he).1
    have hn := noneE_zero (pnE_zero he).2
    obtain ⟨sh, rfl⟩ : ∃ sh : Nat, m = sh := ⟨m.toNat, by omega⟩
    obtain ⟨k, rfl⟩ : ∃ k : Nat, n = k := ⟨n.toNat, by omega⟩
    have e1 : partL sh l k = marks sh (keysIn (locksAt l k)) := if_pos he
    have e2 : (marks sh (keysIn (locksAt l k))).length = sh := marks_len _ _
    rw [e1, he, e2]
    refine (caught_part_ret _ sh _ _ (part1_ok la lc l sh k _ _ _ h0 h1 h2 (hl.below hg) he)).mono ?_
    rintro e w' ⟨g, c, rfl, ho, hb⟩
    exact ⟨some ⟨g, 0, none⟩, c, rfl, bools_of_owns ho, hb⟩
  · have e1 : partL m l n = [] := if_neg he
    rw [e1]
    refine (caught_part_pan _ _ _ (part1_pan la lc l m n _ _ _ h0 h1 h2 (hl.below hg) he)).mono ?_
    rintro e w' ⟨rfl, hb⟩
    exact ⟨none, 0, rfl, fun i hi => absurd hi (by simp), hb⟩

set_option maxRecDepth 100000 in
set_option maxHeartbeats 1000000 in
theorem active_by (bs : List Bool) (x : Int) (w : World)
    (h : Calls Tryz.prog 87 #[.func (.func 91) #[] #[.pointer (some ⟨w.heap.size, 0, none⟩), .pointer (some ⟨w.heap.size + 1, 0, none⟩)]] ((w.alloc (.cells #[.int .i64 m, .slice la l.length lc] 24)).alloc (.cells #[.int .i64 n] 3)) fun e w' => ∃ a c, e = .returned (.tuple #[.slice a bs.length c, .int .i64 x]) ∧ IsBools w' a bs ∧ Below ((w.alloc (.cells #[.int .i64 m, .slice la l.length lc] 24)).alloc (.cells #[.int .i64 n] 3)).heap.size ((w.alloc (.cells #[.int .i64 m, .slice la l.length lc] 24)).alloc (.cells #[.int .i64 n] 3)) w') :
    Calls Tryz.prog 39 #[.agg #[.int .i64 m, .slice la l.length lc], .int .i64 n] w fun e w' => ∃ a c, e = .returned (.tuple #[.slice a bs.length c, .int .i64 x]) ∧ IsBools w' a bs ∧ Below w.heap.size w w' := by
  have hmf : ∀ (fn : Fn) (first cap : Array Value) (w : World), (Instr.makeFunc fn first cap).run Tryz.prog w = .ok (.func fn first cap) w := fun _ _ _ _ => rfl
  have H : Hid (Calls Tryz.prog 87 #[.func (.func 91) #[] #[.pointer (some ⟨w.heap.size, 0, none⟩), .pointer (some ⟨w.heap.size + 1, 0, none⟩)]] ((w.alloc (.cells #[.int .i64 m, .slice la l.length lc] 24)).alloc (.cells #[.int .i64 n] 3)) fun e w' => ∃ a c, e = .returned (.tuple #[.slice a bs.length c, .int .i64 x]) ∧ IsBools w' a bs ∧ Below ((w.alloc (.cells #[.int .i64 m, .slice la l.length lc] 24)).alloc (.cells #[.int .i64 n] 3)).heap.size ((w.alloc (.cells #[.int .i64 m, .slice la l.length lc] 24)).alloc (.cells #[.int .i64 n] 3)) w') := h
  clear h
  go_enter Tryz.func39, Tryz.ntmps39
  go_wp2_with fail
  refine H.out.mono ?_
  clear H
  rintro e w1 ⟨a, c, rfl, ho, hb⟩
  have hB : Hid (Below w.heap.size w w1) := grow_trans (grow_alloc (grow_alloc (Below.refl _ _) _) _) hb
  have hO : Hid (IsBools w1 a bs) := ho
  clear hb ho
  go_wp2
  go_ret2
  exact ⟨a, c, rfl, hO.out, hB.out⟩

set_option maxRecDepth 100000 in
theorem active_any (w : World) (hl : IsTxs w la l) :
    Calls Tryz.prog 39 #[.agg #[.int .i64 m, .slice la l.length lc], .int .i64 n] w fun e w' => ∃ a c, e = .returned (.tuple #[.slice a (activeL m l n).length c, .int .i64 (pnE m l n)]) ∧ IsBools w' a (activeL m l n) ∧ Below w.heap.size w w' := by
  have hg : Below w.heap.size w (((w.alloc (.cells #[.int .i64 m, .slice la l.length lc] 24)).alloc (.cells #[.int .i64 n] 3)).alloc (.cells #[.int .i64 0] 30)) := grow_alloc (grow_alloc (grow_alloc (Below.refl _ _) _) _) _
  have h0 : (((w.alloc (.cells #[.int .i64 m, .slice la l.length lc] 24)).alloc (.cells #[.int .i64 n] 3)).alloc (.cells #[.int .i64 0] 30)).cell? ⟨w.heap.size, 0, none⟩ = some (.int .i64 m) := by
    rw [World.cell?_alloc_lt _ _ _ (by simp; omega), World.cell?_alloc_lt _ _ _ (by simp)]; simp
  have h1 : (((w.alloc (.cells #[.int .i64 m, .slice la l.length lc] 24)).alloc (.cells #[.int .i64 n] 3)).alloc (.cells #[.int .i64 0] 30)).cell? ⟨w.heap.size, 1, none⟩ = some (.slice la l.length lc) := by
    rw [World.cell?_alloc_lt _ _ _ (by simp; omega), World.cell?_alloc_lt _ _ _ (by simp)]; simp
  have h2 : (((w.alloc (.cells #[.int .i64 m, .slice la l.length lc] 24)).alloc (.cells #[.int .i64 n] 3)).alloc (.cells #[.int .i64 0] 30)).cell? ⟨w.heap.size + 1, 0, none⟩ = some (.int .i64 n) := by
    rw [World.cell?_alloc_lt _ _ _ (by simp)]; simp
  refine active_by la lc l m n _ _ w ?_
  by_cases he : pnE m l n = 0
  · have hp := planE_zero (pnE_zero he).1
    have hn := noneE_zero (pnE_zero he).2
    obtain ⟨sh, rfl⟩ : ∃ sh : Nat, m = sh := ⟨m.toNat, by omega⟩
    obtain ⟨k, rfl⟩ : ∃ k : Nat, n = k := ⟨n.toNat, by omega⟩
    have e1 : activeL sh l k = marks sh (setsIn (locksAt l k)) := if_pos he
    have e2 : (marks sh (setsIn (locksAt l k))).length = sh := marks_len _ _
    rw [e1, he, e2]
    refine (caught_active_ret _ sh _ _ (active1_ok la lc l sh k _ _ _ h0 h1 h2 (hl.below hg) he)).mono ?_
    rintro e w' ⟨g, c, rfl, ho, hb⟩
    exact ⟨some ⟨g, 0, none⟩, c, rfl, bools_of_owns ho, hb⟩
  · have e1 : activeL m l n = [] := if_neg he
    rw [e1]
    refine (caught_active_pan _ _ _ (active1_pan la lc l m n _ _ _ h0 h1 h2 (hl.below hg) he)).mono ?_
    rintro e w' ⟨rfl, hb⟩
    exact ⟨none, 0, rfl, fun i hi => absurd hi (by simp), hb⟩
end Go.Proofs.YtebjkmknhpgemaaGreat
