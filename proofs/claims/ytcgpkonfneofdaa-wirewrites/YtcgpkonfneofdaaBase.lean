/-
  The contracts of the calls that leave by a panic and catch it again: Leave, Caught and its deferred closure, the tables of operations and comparisons and their entries.
  Conditions: none beyond those that each theorem states.
-/
import Derived.Test.YtcgpkonfneofdaaRows
import Derived.WalkKit
import Derived.WalkSpells
import Derived.WalkLawsBesides
import Derived.Defers
import Derived.Recover
import Derived.ProofKit
import Derived.Laws.Pointers
import Derived.Deep.RegionHeld3
import Derived.Deep.QuietTactic
import Derived.BigQuiet
import Derived.Maps.OwnSet
namespace Go.Proofs.Ytcgpkonfneofdaa
open Go.RowKit
theorem leave_ok (es : List Int) (b cap : Nat) (w : World) (hl : es.length ≤ 8) (h0 : ∀ k, es.getD k 0 = 0)
    (hc : ∀ k, k < es.length → w.cell? ⟨b, k, none⟩ = some (.int .i64 (es.getD k 0))) :
    Calls Try.prog 25 #[.slice (some ⟨b, 0, none⟩) es.length cap] w fun e w' => e = .returned (.tuple #[]) ∧ w' = w := by
  go_enter Try.func25, Try.ntmps25
  go_wp2
  go_loop [3, 6] (fun _ i => ∃ k : Nat, k ≤ es.length ∧ i = .int .i64 k) (fun _ i => es.length - (intOf i).toNat)
  case atStart => exact ⟨0, Nat.zero_le _, rfl⟩
  case round =>
    obtain ⟨k, hk, rfl⟩ := hrel
    by_cases hlt : k < es.length
    · have hck : w.cell? ⟨b, k, none⟩ = some (.int .i64 0) := by rw [hc k hlt, h0 k]
      clear hc h0
      go_wp2
      go_round
      case rel => exact ⟨k + 1, by omega, by go_num⟩
      case measure => simp [intOf]; omega
    · go_wp2
      go_end0
      exact ⟨rfl, rfl⟩

theorem leave_bad (es : List Int) (n : Nat) (x : Int) (b cap : Nat) (w : World) (hl : es.length ≤ 8) (hn : n < es.length) (h0 : ∀ k, k < n → es.getD k 0 = 0) (hx : es.getD n 0 = x) (hxn : ¬ x = 0)
    (hc : ∀ k, k < es.length → w.cell? ⟨b, k, none⟩ = some (.int .i64 (es.getD k 0))) :
    Calls Try.prog 25 #[.slice (some ⟨b, 0, none⟩) es.length cap] w fun e w' => e = .panicked [{ v := .iface 25 (.int .i64 x), recovered := false }] ∧ w' = w := by
  go_enter Try.func25, Try.ntmps25
  go_wp2
  go_loop [3, 6] (fun _ i => ∃ k : Nat, k ≤ n ∧ i = .int .i64 k) (fun _ i => es.length - (intOf i).toNat)
  case atStart => exact ⟨0, Nat.zero_le _, rfl⟩
  case round =>
    obtain ⟨k, hk, rfl⟩ := hrel
    by_cases hlt : k < n
    · have hck : w.cell? ⟨b, k, none⟩ = some (.int .i64 0) := by rw [hc k (by omega), h0 k hlt]
      clear hc h0 hx
      have hkl : k < es.length := by omega
      go_wp2
      go_round
      case rel => exact ⟨k + 1, by omega, by go_num⟩
      case measure => simp [intOf]; omega
    · have hkn : k = n := by omega
      subst hkn
      have hck : w.cell? ⟨b, k, none⟩ = some (.int .i64 x) := by rw [hc k hn, hx]
      have hb : (x != 0) = true := by simpa using hxn
      clear hc h0 hx hlt
      go_wp2
      exact ⟨rfl, rfl, rfl⟩
theorem assert_errno (x : Int) (w : World) : (Instr.typeAssert (.iface 25 (.int .i64 x)) 20 25 false).run Try.prog w = .ok (.int .i64 x) w := by kernel_rfl

theorem catch53_panicking (p : Addr) (x y : Int) (older : List PanicEntry) (w : World) (hc : w.cell? p = some (.int .i64 y)) (hz : w.frozen? p = false) :
    CallsD Try.prog 68 #[.pointer (some p)] (.panicking ({ v := .iface 25 (.int .i64 x), recovered := false } :: older)) w fun e u' w' =>
      e = .returned (.tuple #[]) ∧ u' = .panicking ({ v := .iface 25 (.int .i64 x), recovered := true } :: older) ∧ w' = w.setCell p (.int .i64 x) := by
  refine callsD_of_wpS Try.func68 rfl fun c₀ cs hu => ?_
  apply wpS_seq
  apply wpS_region
  simp [wpOpsS, go_sem, recoverD, hu, Try.ntmps68, Exit.thenS]
  apply wpS_seq
  apply wpS_region
  simp [wpOpsS, go_sem, Exit.thenS]
  refine wpS_cond (t := true) (by simp [Act.eval, Array.replicate]) ?_
  simp only [if_true]
  apply wpS_region
  simp [wpOpsS, go_sem, assert_errno, hc, hz, bodyPostS, results, Try.results68]

theorem catch53_idle (p : Addr) (w : World) :
    CallsD Try.prog 68 #[.pointer (some p)] .returning w fun e u' w' => e = .returned (.tuple #[]) ∧ u' = .returning ∧ w' = w := by
  refine callsD_of_wpS Try.func68 rfl fun c₀ cs hu => ?_
  apply wpS_seq
  apply wpS_region
  simp [wpOpsS, go_sem, recoverD, hu, Try.ntmps68, Exit.thenS]
  apply wpS_seq
  apply wpS_region
  simp [wpOpsS, go_sem, Exit.thenS]
  refine wpS_cond (t := false) (by simp [Act.eval, Array.replicate]) ?_
  simp only [Bool.false_eq_true, if_false]
  refine wpS_of_wp (wp_skip ?_)
  cases c₀
  simp_all [bodyPostS, results, Try.results68]
theorem catch60_panicking (p : Addr) (x y : Int) (older : List PanicEntry) (w : World) (hc : w.cell? p = some (.int .i64 y)) (hz : w.frozen? p = false) :
    CallsD Try.prog 96 #[.pointer (some p)] (.panicking ({ v := .iface 25 (.int .i64 x), recovered := false } :: older)) w fun e u' w' =>
      e = .returned (.tuple #[]) ∧ u' = .panicking ({ v := .iface 25 (.int .i64 x), recovered := true } :: older) ∧ w' = w.setCell p (.int .i64 x) := by
  refine callsD_of_wpS Try.func96 rfl fun c₀ cs hu => ?_
  apply wpS_seq
  apply wpS_region
  simp [wpOpsS, go_sem, recoverD, hu, Try.ntmps96, Exit.thenS]
  apply wpS_seq
  apply wpS_region
  simp [wpOpsS, go_sem, Exit.thenS]
  refine wpS_cond (t := true) (by simp [Act.eval, Array.replicate]) ?_
  simp only [if_true]
  apply wpS_region
  simp [wpOpsS, go_sem, assert_errno, hc, hz, bodyPostS, results, Try.results96]

theorem catch60_idle (p : Addr) (w : World) :
    CallsD Try.prog 96 #[.pointer (some p)] .returning w fun e u' w' => e = .returned (.tuple #[]) ∧ u' = .returning ∧ w' = w := by
  refine callsD_of_wpS Try.func96 rfl fun c₀ cs hu => ?_
  apply wpS_seq
  apply wpS_region
  simp [wpOpsS, go_sem, recoverD, hu, Try.ntmps96, Exit.thenS]
  apply wpS_seq
  apply wpS_region
  simp [wpOpsS, go_sem, Exit.thenS]
  refine wpS_cond (t := false) (by simp [Act.eval, Array.replicate]) ?_
  simp only [Bool.false_eq_true, if_false]
  refine wpS_of_wp (wp_skip ?_)
  cases c₀
  simp_all [bodyPostS, results, Try.results96]
theorem catch69_panicking (p : Addr) (x y : Int) (older : List PanicEntry) (w : World) (hc : w.cell? p = some (.int .i64 y)) (hz : w.frozen? p = false) :
    CallsD Try.prog 76 #[.pointer (some p)] (.panicking ({ v := .iface 25 (.int .i64 x), recovered := false } :: older)) w fun e u' w' =>
      e = .returned (.tuple #[]) ∧ u' = .panicking ({ v := .iface 25 (.int .i64 x), recovered := true } :: older) ∧ w' = w.setCell p (.int .i64 x) := by
  refine callsD_of_wpS Try.func76 rfl fun c₀ cs hu => ?_
  apply wpS_seq
  apply wpS_region
  simp [wpOpsS, go_sem, recoverD, hu, Try.ntmps76, Exit.thenS]
  apply wpS_seq
  apply wpS_region
  simp [wpOpsS, go_sem, Exit.thenS]
  refine wpS_cond (t := true) (by simp [Act.eval, Array.replicate]) ?_
  simp only [if_true]
  apply wpS_region
  simp [wpOpsS, go_sem, assert_errno, hc, hz, bodyPostS, results, Try.results76]

theorem catch69_idle (p : Addr) (w : World) :
    CallsD Try.prog 76 #[.pointer (some p)] .returning w fun e u' w' => e = .returned (.tuple #[]) ∧ u' = .returning ∧ w' = w := by
  refine callsD_of_wpS Try.func76 rfl fun c₀ cs hu => ?_
  apply wpS_seq
  apply wpS_region
  simp [wpOpsS, go_sem, recoverD, hu, Try.ntmps76, Exit.thenS]
  apply wpS_seq
  apply wpS_region
  simp [wpOpsS, go_sem, Exit.thenS]
  refine wpS_cond (t := false) (by simp [Act.eval, Array.replicate]) ?_
  simp only [Bool.false_eq_true, if_false]
  refine wpS_of_wp (wp_skip ?_)
  cases c₀
  simp_all [bodyPostS, results, Try.results76]
theorem push_set {α : Type} (a : Array α) (x y : α) : (a.push x).setIfInBounds a.size y = a.push y := by
  apply Array.ext_getElem?
  intro i
  rw [Array.getElem?_setIfInBounds, Array.getElem?_push, Array.getElem?_push]
  by_cases h : a.size = i
  · subst h; simp
  · rw [if_neg h, if_neg (fun e => h e.symm), if_neg (fun e => h e.symm)]

theorem ins_run {t e : TypeId} (ht : Try.prog.underlying t = some (.map 3 e)) (w : World) (es : Array MapEntry) (clock : Nat) (n : Int) (v : Value) (hn : Instr.findNow (.int .i64) (.int .i64 n) es.toList 0 = some none) :
    (Instr.mapUpdate t (.map (some w.heap.size)) (.int .i64 n) v).run Try.prog (w.alloc (.map es clock)) = .ok () (w.alloc (.map (es.push ⟨.int .i64 n, v, clock⟩) (clock + 1))) := by
  have hb : (w.alloc (.map es clock)).heap[w.heap.size]? = some (.map es clock) := by show (w.heap.push _)[w.heap.size]? = _; simp
  have hk : MapKept.IsKey (.int .i64) (.int .i64 n) := by simp [MapKept.IsKey]
  simp [Instr.mapUpdate, run_underlying ht, MapKept.run_getObj_map hb, MapKept.run_checkKey Try.underlying3 hk, MapKept.run_findKey Try.underlying3 hn, MapKept.run_setObj_map _ hb, Result.andThen]
  have he : (w.alloc (.map es clock)).heap.setIfInBounds w.heap.size (.map (es.push ⟨.int .i64 n, v, clock⟩) (clock + 1)) = w.heap.push (.map (es.push ⟨.int .i64 n, v, clock⟩) (clock + 1)) := by
    show (w.heap.push _).setIfInBounds w.heap.size _ = _
    exact push_set _ _ _
  rw [he]
  rfl

theorem look_some {t e : TypeId} (ht : Try.prog.underlying t = some (.map 3 e)) (w : World) (es : Array MapEntry) (clock r : Nat) (hb : w.heap[r]? = some (.map es clock)) (n : Int) (j : Nat) (v : Value) (hn : Instr.findNow (.int .i64) (.int .i64 n) es.toList 0 = some (some (j, v))) :
    (Instr.lookup t (.map (some r)) (.int .i64 n) true).run Try.prog w = .ok (.tuple #[v, .bool true]) w := by
  have hk : MapKept.IsKey (.int .i64) (.int .i64 n) := by simp [MapKept.IsKey]
  simp [Instr.lookup, run_underlying ht, MapKept.run_getObj_map hb, MapKept.run_checkKey Try.underlying3 hk, MapKept.run_findKey Try.underlying3 hn, Result.andThen]

theorem look_none {t e : TypeId} (ht : Try.prog.underlying t = some (.map 3 e)) (w : World) (es : Array MapEntry) (clock r : Nat) (hb : w.heap[r]? = some (.map es clock)) (n : Int) (z : Value) (hz : ∀ w, (zeroValue e).run Try.prog w = .ok z w) (hn : Instr.findNow (.int .i64) (.int .i64 n) es.toList 0 = some none) :
    (Instr.lookup t (.map (some r)) (.int .i64 n) true).run Try.prog w = .ok (.tuple #[z, .bool false]) w := by
  have hk : MapKept.IsKey (.int .i64) (.int .i64 n) := by simp [MapKept.IsKey]
  simp [Instr.lookup, run_underlying ht, MapKept.run_getObj_map hb, MapKept.run_checkKey Try.underlying3 hk, MapKept.run_findKey Try.underlying3 hn, Result.andThen, hz]

/-- A call that panics, offered where the rest of a region is still walked: the second way is never taken. -/
theorem panic_or {P : Program} {f : FuncId} {args : Array Value} {w : World} {R : Ending → World → Prop} (h : Calls P f args w R) (v : Value) :
    Calls P f args w fun e w' => R e w' ∨ (Hid False ∧ e = .returned v ∧ w' = w) := h.mono fun _ _ h => Or.inl h

def opsMap : Array MapEntry := #[⟨.int .i64 1, .func (.func 135) #[] #[], 0⟩, ⟨.int .i64 2, .func (.func 136) #[] #[], 1⟩, ⟨.int .i64 3, .func (.func 137) #[] #[], 2⟩, ⟨.int .i64 4, .func (.func 138) #[] #[], 3⟩, ⟨.int .i64 5, .func (.func 139) #[] #[], 4⟩, ⟨.int .i64 6, .func (.func 140) #[] #[], 5⟩]

set_option maxRecDepth 10000 in
theorem operations_any (w : World) :
    Calls Try.prog 127 #[] w fun e w' => e = .returned (.map (some w.heap.size)) ∧ w' = w.alloc (.map opsMap 6) := by
  have hmm := @run_makeMap Try.prog
  have h0 := fun (w : World) => ins_run Try.underlying158 w #[] 0 1 (.func (.func 135) #[] #[]) rfl
  have h1 := fun (w : World) => ins_run Try.underlying158 w #[⟨.int .i64 1, .func (.func 135) #[] #[], 0⟩] 1 2 (.func (.func 136) #[] #[]) rfl
  have h2 := fun (w : World) => ins_run Try.underlying158 w #[⟨.int .i64 1, .func (.func 135) #[] #[], 0⟩, ⟨.int .i64 2, .func (.func 136) #[] #[], 1⟩] 2 3 (.func (.func 137) #[] #[]) rfl
  have h3 := fun (w : World) => ins_run Try.underlying158 w #[⟨.int .i64 1, .func (.func 135) #[] #[], 0⟩, ⟨.int .i64 2, .func (.func 136) #[] #[], 1⟩, ⟨.int .i64 3, .func (.func 137) #[] #[], 2⟩] 3 4 (.func (.func 138) #[] #[]) rfl
  have h4 := fun (w : World) => ins_run Try.underlying158 w #[⟨.int .i64 1, .func (.func 135) #[] #[], 0⟩, ⟨.int .i64 2, .func (.func 136) #[] #[], 1⟩, ⟨.int .i64 3, .func (.func 137) #[] #[], 2⟩, ⟨.int .i64 4, .func (.func 138) #[] #[], 3⟩] 4 5 (.func (.func 139) #[] #[]) rfl
  have h5 := fun (w : World) => ins_run Try.underlying158 w #[⟨.int .i64 1, .func (.func 135) #[] #[], 0⟩, ⟨.int .i64 2, .func (.func 136) #[] #[], 1⟩, ⟨.int .i64 3, .func (.func 137) #[] #[], 2⟩, ⟨.int .i64 4, .func (.func 138) #[] #[], 3⟩, ⟨.int .i64 5, .func (.func 139) #[] #[], 4⟩] 5 6 (.func (.func 140) #[] #[]) rfl
  simp only [List.push_toArray, List.nil_append, List.cons_append, Nat.reduceAdd, Nat.zero_add] at h0 h1 h2 h3 h4 h5
  go_enter Try.func127, Try.ntmps127
  go_wp2
  go_ret
  exact ⟨rfl, rfl⟩

theorem operations_found (op : Int) (j : Nat) (v : Value) (hf : Instr.findNow (.int .i64) (.int .i64 op) opsMap.toList 0 = some (some (j, v))) (r : Nat) (w : World) (hr : w.heap[r]? = some (.map opsMap 6)) :
    Calls Try.prog 126 #[.map (some r), .int .i64 op] w fun e w' => e = .returned v ∧ w' = w := by
  have hl := look_some Try.underlying158 w opsMap 6 r hr op j v hf
  clear hf hr
  go_enter Try.func126, Try.ntmps126
  go_wp2
  go_ret
  exact ⟨rfl, rfl⟩

set_option maxRecDepth 100000 in
theorem operations_none (op : Int) (hf : Instr.findNow (.int .i64) (.int .i64 op) opsMap.toList 0 = some none) (r : Nat) (w : World) (hr : w.heap[r]? = some (.map opsMap 6)) :
    Calls Try.prog 126 #[.map (some r), .int .i64 op] w fun e w' => e = .panicked [{ v := .iface 25 (.int .i64 4), recovered := false }] ∧ w' = w.alloc (.cells #[.int .i64 4] 25) := by
  have hl := look_none Try.underlying158 w opsMap 6 r hr op .nilFunc (fun _ => rfl) hf
  clear hf hr
  go_enter Try.func126, Try.ntmps126
  go_wp2_with fail
  refine (leave_bad [4] 0 4 w.heap.size 1 _ (by simp) (by simp) (by simp) rfl (by decide) (by simp)).mono ?_
  rintro e w' ⟨rfl, rfl⟩
  go_wp2
  exact ⟨rfl, rfl, rfl⟩

def cmpMap : Array MapEntry := #[⟨.int .i64 1, .func (.func 131) #[] #[], 0⟩, ⟨.int .i64 2, .func (.func 132) #[] #[], 1⟩, ⟨.int .i64 3, .func (.func 133) #[] #[], 2⟩, ⟨.int .i64 4, .func (.func 134) #[] #[], 3⟩]

set_option maxRecDepth 10000 in
theorem comparisons_any (w : World) :
    Calls Try.prog 124 #[] w fun e w' => e = .returned (.map (some w.heap.size)) ∧ w' = w.alloc (.map cmpMap 4) := by
  have hmm := @run_makeMap Try.prog
  have h0 := fun (w : World) => ins_run Try.underlying155 w #[] 0 1 (.func (.func 131) #[] #[]) rfl
  have h1 := fun (w : World) => ins_run Try.underlying155 w #[⟨.int .i64 1, .func (.func 131) #[] #[], 0⟩] 1 2 (.func (.func 132) #[] #[]) rfl
  have h2 := fun (w : World) => ins_run Try.underlying155 w #[⟨.int .i64 1, .func (.func 131) #[] #[], 0⟩, ⟨.int .i64 2, .func (.func 132) #[] #[], 1⟩] 2 3 (.func (.func 133) #[] #[]) rfl
  have h3 := fun (w : World) => ins_run Try.underlying155 w #[⟨.int .i64 1, .func (.func 131) #[] #[], 0⟩, ⟨.int .i64 2, .func (.func 132) #[] #[], 1⟩, ⟨.int .i64 3, .func (.func 133) #[] #[], 2⟩] 3 4 (.func (.func 134) #[] #[]) rfl
  simp only [List.push_toArray, List.nil_append, List.cons_append, Nat.reduceAdd, Nat.zero_add] at h0 h1 h2 h3
  go_enter Try.func124, Try.ntmps124
  go_wp2
  go_ret
  exact ⟨rfl, rfl⟩

theorem comparisons_found (op : Int) (j : Nat) (v : Value) (hf : Instr.findNow (.int .i64) (.int .i64 op) cmpMap.toList 0 = some (some (j, v))) (r : Nat) (w : World) (hr : w.heap[r]? = some (.map cmpMap 4)) :
    Calls Try.prog 123 #[.map (some r), .int .i64 op] w fun e w' => e = .returned v ∧ w' = w := by
  have hl := look_some Try.underlying155 w cmpMap 4 r hr op j v hf
  clear hf hr
  go_enter Try.func123, Try.ntmps123
  go_wp2
  go_ret
  exact ⟨rfl, rfl⟩

set_option maxRecDepth 100000 in
theorem comparisons_none (op : Int) (hf : Instr.findNow (.int .i64) (.int .i64 op) cmpMap.toList 0 = some none) (r : Nat) (w : World) (hr : w.heap[r]? = some (.map cmpMap 4)) :
    Calls Try.prog 123 #[.map (some r), .int .i64 op] w fun e w' => e = .panicked [{ v := .iface 25 (.int .i64 4), recovered := false }] ∧ w' = w.alloc (.cells #[.int .i64 4] 25) := by
  have hl := look_none Try.underlying155 w cmpMap 4 r hr op .nilFunc (fun _ => rfl) hf
  clear hf hr
  go_enter Try.func123, Try.ntmps123
  go_wp2_with fail
  refine (leave_bad [4] 0 4 w.heap.size 1 _ (by simp) (by simp) (by simp) rfl (by decide) (by simp)).mono ?_
  rintro e w' ⟨rfl, rfl⟩
  go_wp2
  exact ⟨rfl, rfl, rfl⟩

def lesser (a b : Int) : Int := if b < a then b else a
def greater (a b : Int) : Int := if a < b then b else a

theorem cl54 (a b : Int) (w : World) : Calls Try.prog 135 #[.int .i64 a, .int .i64 b] w fun e w' => e = .returned (.int .i64 a) ∧ w' = w := by
  go_enter Try.func135, Try.ntmps135
  go_wp2
  go_ret
  exact ⟨rfl, rfl⟩

theorem cl55 (a b : Int) (w : World) : Calls Try.prog 136 #[.int .i64 a, .int .i64 b] w fun e w' => e = .returned (.int .i64 (wrap64 (a + b))) ∧ w' = w := by
  go_enter Try.func136, Try.ntmps136
  go_wp2
  go_ret
  exact ⟨rfl, rfl⟩

theorem cl56 (a b : Int) (w : World) : Calls Try.prog 137 #[.int .i64 a, .int .i64 b] w fun e w' => e = .returned (.int .i64 (wrap64 (a - b))) ∧ w' = w := by
  go_enter Try.func137, Try.ntmps137
  go_wp2
  go_ret
  exact ⟨rfl, rfl⟩

theorem cl57 (a b : Int) (w : World) : Calls Try.prog 138 #[.int .i64 a, .int .i64 b] w fun e w' => e = .returned (.int .i64 (wrap64 (a * b))) ∧ w' = w := by
  go_enter Try.func138, Try.ntmps138
  go_wp2
  go_ret
  exact ⟨rfl, rfl⟩

theorem cl61 (a b : Int) (w : World) : Calls Try.prog 131 #[.int .i64 a, .int .i64 b] w fun e w' => e = .returned (.bool (a == b)) ∧ w' = w := by
  go_enter Try.func131, Try.ntmps131
  go_wp2
  go_ret
  exact ⟨rfl, rfl⟩

theorem cl62 (a b : Int) (w : World) : Calls Try.prog 132 #[.int .i64 a, .int .i64 b] w fun e w' => e = .returned (.bool (a != b)) ∧ w' = w := by
  go_enter Try.func132, Try.ntmps132
  go_wp2
  go_ret
  exact ⟨rfl, rfl⟩

theorem cl63 (a b : Int) (w : World) : Calls Try.prog 133 #[.int .i64 a, .int .i64 b] w fun e w' => e = .returned (.bool (decide (a < b))) ∧ w' = w := by
  go_enter Try.func133, Try.ntmps133
  go_wp2
  go_ret
  exact ⟨rfl, rfl⟩

theorem cl64 (a b : Int) (w : World) : Calls Try.prog 134 #[.int .i64 a, .int .i64 b] w fun e w' => e = .returned (.bool (decide (a ≤ b))) ∧ w' = w := by
  go_enter Try.func134, Try.ntmps134
  go_wp2
  go_ret
  exact ⟨rfl, rfl⟩

theorem cl58 (a b : Int) (w : World) : Calls Try.prog 139 #[.int .i64 a, .int .i64 b] w fun e w' => e = .returned (.int .i64 (lesser a b)) ∧ w' = w := by
  unfold lesser
  go_enter Try.func139, Try.ntmps139
  go_wp2
  all_goals go_ret
  all_goals exact ⟨rfl, rfl⟩

theorem cl59 (a b : Int) (w : World) : Calls Try.prog 140 #[.int .i64 a, .int .i64 b] w fun e w' => e = .returned (.int .i64 (greater a b)) ∧ w' = w := by
  unfold greater
  go_enter Try.func140, Try.ntmps140
  go_wp2
  all_goals go_ret
  all_goals exact ⟨rfl, rfl⟩

theorem caught_r_ret (cap : Array Value) (v : Int) (w : World)
    (h : Calls Try.prog 125 cap (w.alloc (.cells #[.int .i64 0] 25)) fun e w' => e = .returned (.int .i64 v) ∧ Below (w.heap.size + 1) (w.alloc (.cells #[.int .i64 0] 25)) w') :
    Calls Try.prog 23 #[.func (.func 125) #[] cap] w fun e w' => e = .returned (.tuple #[.int .i64 v, .int .i64 0]) ∧ Below w.heap.size w w' := by
  have hmf : ∀ (fn : Fn) (first cap : Array Value) (w : World), (Instr.makeFunc fn first cap).run Try.prog w = .ok (.func fn first cap) w := fun _ _ _ _ => rfl
  have H : Hid (Calls Try.prog 125 cap (w.alloc (.cells #[.int .i64 0] 25)) fun e w' => e = .returned (.int .i64 v) ∧ Below (w.heap.size + 1) (w.alloc (.cells #[.int .i64 0] 25)) w') := h
  clear h
  go_enter_defers Try.func23, Try.ntmps23
  go_wp2_with fail
  refine H.out.mono ?_
  clear H
  rintro e w1 ⟨rfl, hb⟩
  have hc : w1.cell? ⟨w.heap.size, 0, none⟩ = some (.int .i64 0) := by rw [hb.cell (by simp)]; simp
  have hf : w1.frozen? ⟨w.heap.size, 0, none⟩ = false := by rw [hb.frozen (by simp)]; simp
  have Hb : Hid (Below (w.heap.size + 1) (w.alloc (.cells #[.int .i64 0] 25)) w1) := hb
  clear hb
  go_wp2
  refine leaves_cons (f := 68) (args := #[.pointer (some ⟨w.heap.size, 0, none⟩)]) (by simp) (by simp [go_sem]) ?_
  refine (catch53_idle ⟨w.heap.size, 0, none⟩ _).mono ?_
  rintro e u' w'' ⟨rfl, rfl, rfl⟩
  simp [Leaves, settle, results, Try.results23, go_sem, hc]
  have hb := Hb.out
  exact ((Below.refl _ _).alloc (Nat.le_refl _) _ |>.trans (hb.mono (by omega))).setCell (by simp) _

theorem caught_r_pan (cap : Array Value) (x : Int) (w : World)
    (h : Calls Try.prog 125 cap (w.alloc (.cells #[.int .i64 0] 25)) fun e w' => e = .panicked [{ v := .iface 25 (.int .i64 x), recovered := false }] ∧ Below (w.heap.size + 1) (w.alloc (.cells #[.int .i64 0] 25)) w') :
    Calls Try.prog 23 #[.func (.func 125) #[] cap] w fun e w' => e = .returned (.tuple #[.int .i64 0, .int .i64 x]) ∧ Below w.heap.size w w' := by
  have hmf : ∀ (fn : Fn) (first cap : Array Value) (w : World), (Instr.makeFunc fn first cap).run Try.prog w = .ok (.func fn first cap) w := fun _ _ _ _ => rfl
  have H : Hid (Calls Try.prog 125 cap (w.alloc (.cells #[.int .i64 0] 25)) fun e w' => e = .panicked [{ v := .iface 25 (.int .i64 x), recovered := false }] ∧ Below (w.heap.size + 1) (w.alloc (.cells #[.int .i64 0] 25)) w') := h
  clear h
  go_enter_defers Try.func23, Try.ntmps23
  go_wp2_with fail
  refine H.out.mono ?_
  clear H
  rintro e w1 ⟨rfl, hb⟩
  have hc : w1.cell? ⟨w.heap.size, 0, none⟩ = some (.int .i64 0) := by rw [hb.cell (by simp)]; simp
  have hf : w1.frozen? ⟨w.heap.size, 0, none⟩ = false := by rw [hb.frozen (by simp)]; simp
  refine leaves_cons (f := 68) (args := #[.pointer (some ⟨w.heap.size, 0, none⟩)]) (by simp) (by simp [go_sem]) ?_
  refine (catch53_panicking ⟨w.heap.size, 0, none⟩ x 0 [] _ hc hf).mono ?_
  rintro e u' w'' ⟨rfl, rfl, rfl⟩
  simp [Leaves, settle, results, Try.results23, go_sem, hc]
  exact ((Below.refl _ _).alloc (Nat.le_refl _) _ |>.trans (hb.mono (by omega))).setCell (by simp) _

theorem caught_h_ret (cap : Array Value) (v : Bool) (w : World)
    (h : Calls Try.prog 122 cap (w.alloc (.cells #[.int .i64 0] 25)) fun e w' => e = .returned (.bool v) ∧ Below (w.heap.size + 1) (w.alloc (.cells #[.int .i64 0] 25)) w') :
    Calls Try.prog 77 #[.func (.func 122) #[] cap] w fun e w' => e = .returned (.tuple #[.bool v, .int .i64 0]) ∧ Below w.heap.size w w' := by
  have hmf : ∀ (fn : Fn) (first cap : Array Value) (w : World), (Instr.makeFunc fn first cap).run Try.prog w = .ok (.func fn first cap) w := fun _ _ _ _ => rfl
  have H : Hid (Calls Try.prog 122 cap (w.alloc (.cells #[.int .i64 0] 25)) fun e w' => e = .returned (.bool v) ∧ Below (w.heap.size + 1) (w.alloc (.cells #[.int .i64 0] 25)) w') := h
  clear h
  go_enter_defers Try.func77, Try.ntmps77
  go_wp2_with fail
  refine H.out.mono ?_
  clear H
  rintro e w1 ⟨rfl, hb⟩
  have hc : w1.cell? ⟨w.heap.size, 0, none⟩ = some (.int .i64 0) := by rw [hb.cell (by simp)]; simp
  have hf : w1.frozen? ⟨w.heap.size, 0, none⟩ = false := by rw [hb.frozen (by simp)]; simp
  have Hb : Hid (Below (w.heap.size + 1) (w.alloc (.cells #[.int .i64 0] 25)) w1) := hb
  clear hb
  go_wp2
  refine leaves_cons (f := 96) (args := #[.pointer (some ⟨w.heap.size, 0, none⟩)]) (by simp) (by simp [go_sem]) ?_
  refine (catch60_idle ⟨w.heap.size, 0, none⟩ _).mono ?_
  rintro e u' w'' ⟨rfl, rfl, rfl⟩
  simp [Leaves, settle, results, Try.results77, go_sem, hc]
  have hb := Hb.out
  exact ((Below.refl _ _).alloc (Nat.le_refl _) _ |>.trans (hb.mono (by omega))).setCell (by simp) _

theorem caught_h_pan (cap : Array Value) (x : Int) (w : World)
    (h : Calls Try.prog 122 cap (w.alloc (.cells #[.int .i64 0] 25)) fun e w' => e = .panicked [{ v := .iface 25 (.int .i64 x), recovered := false }] ∧ Below (w.heap.size + 1) (w.alloc (.cells #[.int .i64 0] 25)) w') :
    Calls Try.prog 77 #[.func (.func 122) #[] cap] w fun e w' => e = .returned (.tuple #[.bool false, .int .i64 x]) ∧ Below w.heap.size w w' := by
  have hmf : ∀ (fn : Fn) (first cap : Array Value) (w : World), (Instr.makeFunc fn first cap).run Try.prog w = .ok (.func fn first cap) w := fun _ _ _ _ => rfl
  have H : Hid (Calls Try.prog 122 cap (w.alloc (.cells #[.int .i64 0] 25)) fun e w' => e = .panicked [{ v := .iface 25 (.int .i64 x), recovered := false }] ∧ Below (w.heap.size + 1) (w.alloc (.cells #[.int .i64 0] 25)) w') := h
  clear h
  go_enter_defers Try.func77, Try.ntmps77
  go_wp2_with fail
  refine H.out.mono ?_
  clear H
  rintro e w1 ⟨rfl, hb⟩
  have hc : w1.cell? ⟨w.heap.size, 0, none⟩ = some (.int .i64 0) := by rw [hb.cell (by simp)]; simp
  have hf : w1.frozen? ⟨w.heap.size, 0, none⟩ = false := by rw [hb.frozen (by simp)]; simp
  refine leaves_cons (f := 96) (args := #[.pointer (some ⟨w.heap.size, 0, none⟩)]) (by simp) (by simp [go_sem]) ?_
  refine (catch60_panicking ⟨w.heap.size, 0, none⟩ x 0 [] _ hc hf).mono ?_
  rintro e u' w'' ⟨rfl, rfl, rfl⟩
  simp [Leaves, settle, results, Try.results77, go_sem, hc]
  exact ((Below.refl _ _).alloc (Nat.le_refl _) _ |>.trans (hb.mono (by omega))).setCell (by simp) _

theorem caught_c_ret (cap : Array Value) (v : Bool) (w : World)
    (h : Calls Try.prog 78 cap (w.alloc (.cells #[.int .i64 0] 25)) fun e w' => e = .returned (.bool v) ∧ Below (w.heap.size + 1) (w.alloc (.cells #[.int .i64 0] 25)) w') :
    Calls Try.prog 77 #[.func (.func 78) #[] cap] w fun e w' => e = .returned (.tuple #[.bool v, .int .i64 0]) ∧ Below w.heap.size w w' := by
  have hmf : ∀ (fn : Fn) (first cap : Array Value) (w : World), (Instr.makeFunc fn first cap).run Try.prog w = .ok (.func fn first cap) w := fun _ _ _ _ => rfl
  have H : Hid (Calls Try.prog 78 cap (w.alloc (.cells #[.int .i64 0] 25)) fun e w' => e = .returned (.bool v) ∧ Below (w.heap.size + 1) (w.alloc (.cells #[.int .i64 0] 25)) w') := h
  clear h
  go_enter_defers Try.func77, Try.ntmps77
  go_wp2_with fail
  refine H.out.mono ?_
  clear H
  rintro e w1 ⟨rfl, hb⟩
  have hc : w1.cell? ⟨w.heap.size, 0, none⟩ = some (.int .i64 0) := by rw [hb.cell (by simp)]; simp
  have hf : w1.frozen? ⟨w.heap.size, 0, none⟩ = false := by rw [hb.frozen (by simp)]; simp
  have Hb : Hid (Below (w.heap.size + 1) (w.alloc (.cells #[.int .i64 0] 25)) w1) := hb
  clear hb
  go_wp2
  refine leaves_cons (f := 96) (args := #[.pointer (some ⟨w.heap.size, 0, none⟩)]) (by simp) (by simp [go_sem]) ?_
  refine (catch60_idle ⟨w.heap.size, 0, none⟩ _).mono ?_
  rintro e u' w'' ⟨rfl, rfl, rfl⟩
  simp [Leaves, settle, results, Try.results77, go_sem, hc]
  have hb := Hb.out
  exact ((Below.refl _ _).alloc (Nat.le_refl _) _ |>.trans (hb.mono (by omega))).setCell (by simp) _

theorem caught_c_pan (cap : Array Value) (x : Int) (w : World)
    (h : Calls Try.prog 78 cap (w.alloc (.cells #[.int .i64 0] 25)) fun e w' => e = .panicked [{ v := .iface 25 (.int .i64 x), recovered := false }] ∧ Below (w.heap.size + 1) (w.alloc (.cells #[.int .i64 0] 25)) w') :
    Calls Try.prog 77 #[.func (.func 78) #[] cap] w fun e w' => e = .returned (.tuple #[.bool false, .int .i64 x]) ∧ Below w.heap.size w w' := by
  have hmf : ∀ (fn : Fn) (first cap : Array Value) (w : World), (Instr.makeFunc fn first cap).run Try.prog w = .ok (.func fn first cap) w := fun _ _ _ _ => rfl
  have H : Hid (Calls Try.prog 78 cap (w.alloc (.cells #[.int .i64 0] 25)) fun e w' => e = .panicked [{ v := .iface 25 (.int .i64 x), recovered := false }] ∧ Below (w.heap.size + 1) (w.alloc (.cells #[.int .i64 0] 25)) w') := h
  clear h
  go_enter_defers Try.func77, Try.ntmps77
  go_wp2_with fail
  refine H.out.mono ?_
  clear H
  rintro e w1 ⟨rfl, hb⟩
  have hc : w1.cell? ⟨w.heap.size, 0, none⟩ = some (.int .i64 0) := by rw [hb.cell (by simp)]; simp
  have hf : w1.frozen? ⟨w.heap.size, 0, none⟩ = false := by rw [hb.frozen (by simp)]; simp
  refine leaves_cons (f := 96) (args := #[.pointer (some ⟨w.heap.size, 0, none⟩)]) (by simp) (by simp [go_sem]) ?_
  refine (catch60_panicking ⟨w.heap.size, 0, none⟩ x 0 [] _ hc hf).mono ?_
  rintro e u' w'' ⟨rfl, rfl, rfl⟩
  simp [Leaves, settle, results, Try.results77, go_sem, hc]
  exact ((Below.refl _ _).alloc (Nat.le_refl _) _ |>.trans (hb.mono (by omega))).setCell (by simp) _

end Go.Proofs.Ytcgpkonfneofdaa
