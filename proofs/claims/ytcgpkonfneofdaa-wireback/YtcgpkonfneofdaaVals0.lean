/-
  What vals.Reckon, vals.Holds, vals.Check and vals.Value answer, and the document's own words for them (ReckonOf, HoldsOf, CheckOperand, ValueOf), for every argument.
  Conditions: of Value and ValueOf, the list's cells.
-/
import Derived.Test.YtcgpkonfneofdaaClos
import Derived.WalkKit
import Derived.WalkSpells
import Derived.WalkLawsBesides
import Derived.Defers
import Derived.Recover
import Derived.ProofKit
import Derived.Laws.Pointers
import Derived.Deep.RegionHeld3
import Derived.Deep.QuietTactic
import Derived.BigQuiet
import Derived.Maps.OwnSet
namespace Go.Proofs.Ytcgpkonfneofdaa
open Go.RowKit

def reckV (op a b : Int) : Int := if op = 1 then a else if op = 2 then wrap64 (a + b) else if op = 3 then wrap64 (a - b) else if op = 4 then wrap64 (a * b) else if op = 5 then lesser a b else if op = 6 then greater a b else 0
def reckE (op : Int) : Int := if 1 ≤ op ∧ op ≤ 6 then 0 else 4
def holdV (k a b : Int) : Bool := if k = 1 then a == b else if k = 2 then a != b else if k = 3 then decide (a < b) else if k = 4 then decide (a ≤ b) else false
def holdE (k : Int) : Int := if 1 ≤ k ∧ k ≤ 4 then 0 else 4

theorem new_cell (w : World) (v : Value) (T : TypeId) : (w.alloc (.cells #[v] T)).cell? ⟨w.heap.size, 0, none⟩ = some v := by simp

theorem box3 (op a b : Int) (w : World) (o : Obj) :
    ((((w.alloc (.cells #[.int .i64 op] 3)).alloc (.cells #[.int .i64 a] 3)).alloc (.cells #[.int .i64 b] 3)).alloc o).cell? ⟨w.heap.size, 0, none⟩ = some (.int .i64 op) ∧ ((((w.alloc (.cells #[.int .i64 op] 3)).alloc (.cells #[.int .i64 a] 3)).alloc (.cells #[.int .i64 b] 3)).alloc o).cell? ⟨w.heap.size + 1, 0, none⟩ = some (.int .i64 a) ∧ ((((w.alloc (.cells #[.int .i64 op] 3)).alloc (.cells #[.int .i64 a] 3)).alloc (.cells #[.int .i64 b] 3)).alloc o).cell? ⟨w.heap.size + 2, 0, none⟩ = some (.int .i64 b) := by
  refine ⟨?_, ?_, ?_⟩
  · rw [World.cell?_alloc_lt _ _ _ (by simp; omega), World.cell?_alloc_lt _ _ _ (by simp; omega), World.cell?_alloc_lt _ _ _ (by simp)]; simp
  · rw [World.cell?_alloc_lt _ _ _ (by simp), World.cell?_alloc_lt _ _ _ (by simp)]
    simp
  · rw [World.cell?_alloc_lt _ _ _ (by simp)]
    have := new_cell ((w.alloc (.cells #[.int .i64 op] 3)).alloc (.cells #[.int .i64 a] 3)) (.int .i64 b) 3
    simpa using this

theorem up3 {w w1 : World} {x y z : Obj} (hb : Below (((w.alloc x).alloc y).alloc z).heap.size (((w.alloc x).alloc y).alloc z) w1) : Below w.heap.size w w1 :=
  ((((Below.refl _ _).alloc (Nat.le_refl _) x).alloc (by simp) y).alloc (by simp; omega) z).trans (hb.mono (by simp; omega))

theorem reckon_by (op a b : Int) (v : Int) (e : Int) (w : World)
    (h : Calls Try.prog 23 #[.func (.func 125) #[] #[.pointer (some ⟨w.heap.size, 0, none⟩), .pointer (some ⟨w.heap.size + 1, 0, none⟩), .pointer (some ⟨w.heap.size + 2, 0, none⟩)]] (((w.alloc (.cells #[.int .i64 op] 3)).alloc (.cells #[.int .i64 a] 3)).alloc (.cells #[.int .i64 b] 3)) fun e' w' => e' = .returned (.tuple #[.int .i64 v, .int .i64 e]) ∧ Below (((w.alloc (.cells #[.int .i64 op] 3)).alloc (.cells #[.int .i64 a] 3)).alloc (.cells #[.int .i64 b] 3)).heap.size (((w.alloc (.cells #[.int .i64 op] 3)).alloc (.cells #[.int .i64 a] 3)).alloc (.cells #[.int .i64 b] 3)) w') :
    Calls Try.prog 103 #[.int .i64 op, .int .i64 a, .int .i64 b] w fun e' w' => e' = .returned (.tuple #[.int .i64 v, .int .i64 e]) ∧ Below w.heap.size w w' := by
  have hmf : ∀ (fn : Fn) (first cap : Array Value) (w : World), (Instr.makeFunc fn first cap).run Try.prog w = .ok (.func fn first cap) w := fun _ _ _ _ => rfl
  have H : Hid (Calls Try.prog 23 #[.func (.func 125) #[] #[.pointer (some ⟨w.heap.size, 0, none⟩), .pointer (some ⟨w.heap.size + 1, 0, none⟩), .pointer (some ⟨w.heap.size + 2, 0, none⟩)]] (((w.alloc (.cells #[.int .i64 op] 3)).alloc (.cells #[.int .i64 a] 3)).alloc (.cells #[.int .i64 b] 3)) fun e' w' => e' = .returned (.tuple #[.int .i64 v, .int .i64 e]) ∧ Below (((w.alloc (.cells #[.int .i64 op] 3)).alloc (.cells #[.int .i64 a] 3)).alloc (.cells #[.int .i64 b] 3)).heap.size (((w.alloc (.cells #[.int .i64 op] 3)).alloc (.cells #[.int .i64 a] 3)).alloc (.cells #[.int .i64 b] 3)) w') := h
  clear h
  go_enter Try.func103, Try.ntmps103
  go_wp2_with fail
  refine H.out.mono ?_
  clear H
  rintro e w1 ⟨rfl, hb⟩
  have Hb := up3 hb
  clear hb
  go_wp2
  go_ret2
  exact ⟨rfl, Hb⟩

theorem holds_by (op a b : Int) (v : Bool) (e : Int) (w : World)
    (h : Calls Try.prog 77 #[.func (.func 122) #[] #[.pointer (some ⟨w.heap.size, 0, none⟩), .pointer (some ⟨w.heap.size + 1, 0, none⟩), .pointer (some ⟨w.heap.size + 2, 0, none⟩)]] (((w.alloc (.cells #[.int .i64 op] 3)).alloc (.cells #[.int .i64 a] 3)).alloc (.cells #[.int .i64 b] 3)) fun e' w' => e' = .returned (.tuple #[.bool v, .int .i64 e]) ∧ Below (((w.alloc (.cells #[.int .i64 op] 3)).alloc (.cells #[.int .i64 a] 3)).alloc (.cells #[.int .i64 b] 3)).heap.size (((w.alloc (.cells #[.int .i64 op] 3)).alloc (.cells #[.int .i64 a] 3)).alloc (.cells #[.int .i64 b] 3)) w') :
    Calls Try.prog 101 #[.int .i64 op, .int .i64 a, .int .i64 b] w fun e' w' => e' = .returned (.tuple #[.bool v, .int .i64 e]) ∧ Below w.heap.size w w' := by
  have hmf : ∀ (fn : Fn) (first cap : Array Value) (w : World), (Instr.makeFunc fn first cap).run Try.prog w = .ok (.func fn first cap) w := fun _ _ _ _ => rfl
  have H : Hid (Calls Try.prog 77 #[.func (.func 122) #[] #[.pointer (some ⟨w.heap.size, 0, none⟩), .pointer (some ⟨w.heap.size + 1, 0, none⟩), .pointer (some ⟨w.heap.size + 2, 0, none⟩)]] (((w.alloc (.cells #[.int .i64 op] 3)).alloc (.cells #[.int .i64 a] 3)).alloc (.cells #[.int .i64 b] 3)) fun e' w' => e' = .returned (.tuple #[.bool v, .int .i64 e]) ∧ Below (((w.alloc (.cells #[.int .i64 op] 3)).alloc (.cells #[.int .i64 a] 3)).alloc (.cells #[.int .i64 b] 3)).heap.size (((w.alloc (.cells #[.int .i64 op] 3)).alloc (.cells #[.int .i64 a] 3)).alloc (.cells #[.int .i64 b] 3)) w') := h
  clear h
  go_enter Try.func101, Try.ntmps101
  go_wp2_with fail
  refine H.out.mono ?_
  clear H
  rintro e w1 ⟨rfl, hb⟩
  have Hb := up3 hb
  clear hb
  go_wp2
  go_ret2
  exact ⟨rfl, Hb⟩

theorem reckon_any (op a b : Int) (w : World) :
    Calls Try.prog 103 #[.int .i64 op, .int .i64 a, .int .i64 b] w fun e' w' => e' = .returned (.tuple #[.int .i64 (reckV op a b), .int .i64 (reckE op)]) ∧ Below w.heap.size w w' := by
  have hbx := box3 op a b w (.cells #[.int .i64 0] 25)
  by_cases h1 : op = 1
  · subst h1
    exact reckon_by 1 a b _ _ w (caught_r_ret _ _ _ (((reckon1_1 a b _ _ _ _ hbx.1 hbx.2.1 hbx.2.2)).mono (fun e w' h => ⟨h.1, by simpa using h.2⟩)))
  by_cases h2 : op = 2
  · subst h2
    exact reckon_by 2 a b _ _ w (caught_r_ret _ _ _ (((reckon1_2 a b _ _ _ _ hbx.1 hbx.2.1 hbx.2.2)).mono (fun e w' h => ⟨h.1, by simpa using h.2⟩)))
  by_cases h3 : op = 3
  · subst h3
    exact reckon_by 3 a b _ _ w (caught_r_ret _ _ _ (((reckon1_3 a b _ _ _ _ hbx.1 hbx.2.1 hbx.2.2)).mono (fun e w' h => ⟨h.1, by simpa using h.2⟩)))
  by_cases h4 : op = 4
  · subst h4
    exact reckon_by 4 a b _ _ w (caught_r_ret _ _ _ (((reckon1_4 a b _ _ _ _ hbx.1 hbx.2.1 hbx.2.2)).mono (fun e w' h => ⟨h.1, by simpa using h.2⟩)))
  by_cases h5 : op = 5
  · subst h5
    exact reckon_by 5 a b _ _ w (caught_r_ret _ _ _ (((reckon1_5 a b _ _ _ _ hbx.1 hbx.2.1 hbx.2.2)).mono (fun e w' h => ⟨h.1, by simpa using h.2⟩)))
  by_cases h6 : op = 6
  · subst h6
    exact reckon_by 6 a b _ _ w (caught_r_ret _ _ _ (((reckon1_6 a b _ _ _ _ hbx.1 hbx.2.1 hbx.2.2)).mono (fun e w' h => ⟨h.1, by simpa using h.2⟩)))
  · have b1 : (op == 1) = false := by simpa using h1
    have b2 : (op == 2) = false := by simpa using h2
    have b3 : (op == 3) = false := by simpa using h3
    have b4 : (op == 4) = false := by simpa using h4
    have b5 : (op == 5) = false := by simpa using h5
    have b6 : (op == 6) = false := by simpa using h6
    have hf : Instr.findNow (.int .i64) (.int .i64 op) opsMap.toList 0 = some none := by simp only [opsMap, Instr.findNow, Instr.sameNow, if_true, b1, b2, b3, b4, b5, b6]
    have hv : reckV op a b = 0 := by simp [reckV, h1, h2, h3, h4, h5, h6]
    have he : reckE op = 4 := by unfold reckE; rw [if_neg (by omega)]
    rw [hv, he]
    exact reckon_by op a b _ _ w (caught_r_pan _ _ _ (((reckon1_none op a b hf _ _ _ _ hbx.1 hbx.2.1 hbx.2.2)).mono (fun e w' h => ⟨h.1, by simpa using h.2⟩)))

theorem holds_any (op a b : Int) (w : World) :
    Calls Try.prog 101 #[.int .i64 op, .int .i64 a, .int .i64 b] w fun e' w' => e' = .returned (.tuple #[.bool (holdV op a b), .int .i64 (holdE op)]) ∧ Below w.heap.size w w' := by
  have hbx := box3 op a b w (.cells #[.int .i64 0] 25)
  by_cases h1 : op = 1
  · subst h1
    exact holds_by 1 a b _ _ w (caught_h_ret _ _ _ (((holds1_1 a b _ _ _ _ hbx.1 hbx.2.1 hbx.2.2)).mono (fun e w' h => ⟨h.1, by simpa using h.2⟩)))
  by_cases h2 : op = 2
  · subst h2
    exact holds_by 2 a b _ _ w (caught_h_ret _ _ _ (((holds1_2 a b _ _ _ _ hbx.1 hbx.2.1 hbx.2.2)).mono (fun e w' h => ⟨h.1, by simpa using h.2⟩)))
  by_cases h3 : op = 3
  · subst h3
    exact holds_by 3 a b _ _ w (caught_h_ret _ _ _ (((holds1_3 a b _ _ _ _ hbx.1 hbx.2.1 hbx.2.2)).mono (fun e w' h => ⟨h.1, by simpa using h.2⟩)))
  by_cases h4 : op = 4
  · subst h4
    exact holds_by 4 a b _ _ w (caught_h_ret _ _ _ (((holds1_4 a b _ _ _ _ hbx.1 hbx.2.1 hbx.2.2)).mono (fun e w' h => ⟨h.1, by simpa using h.2⟩)))
  · have b1 : (op == 1) = false := by simpa using h1
    have b2 : (op == 2) = false := by simpa using h2
    have b3 : (op == 3) = false := by simpa using h3
    have b4 : (op == 4) = false := by simpa using h4
    have hf : Instr.findNow (.int .i64) (.int .i64 op) cmpMap.toList 0 = some none := by simp only [cmpMap, Instr.findNow, Instr.sameNow, if_true, b1, b2, b3, b4]
    have hv : holdV op a b = false := by simp [holdV, h1, h2, h3, h4]
    have he : holdE op = 4 := by unfold holdE; rw [if_neg (by omega)]
    rw [hv, he]
    exact holds_by op a b _ _ w (caught_h_pan _ _ _ (((holds1_none op a b hf _ _ _ _ hbx.1 hbx.2.1 hbx.2.2)).mono (fun e w' h => ⟨h.1, by simpa using h.2⟩)))

end Go.Proofs.Ytcgpkonfneofdaa
