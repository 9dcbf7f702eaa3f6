/-
  fault.Caught of strings and of plans. Wire: Write.
  Conditions: those that each theorem states.
-/
import Derived.Test.YtcgpkonfneofdaaClos
import Derived.Test.YtcgpkonfneofdaaTool
import Derived.Test.YtcgpkonfneofdaaStoreA
import Derived.Test.YtcgpkonfneofdaaPlaceA
import Derived.Test.YtcgpkonfneofdaaWirMB
import Derived.Test.YtcgpkonfneofdaaWirMC
import Derived.Test.YtcgpkonfneofdaaStoreF
import Derived.WalkKit
import Derived.WalkSpells
import Derived.WalkLawsBesides
import Derived.Defers
import Derived.Recover
import Derived.ProofKit
import Derived.Deep.RegionHeld
import Derived.Deep.RegionHeld3
import Derived.Deep.RegionLaw
import Derived.Deep.DeepCutAuto
import Derived.Deep.QuietTactic
import Derived.BigQuiet
import Derived.Maps.AppendAt
import Derived.Lib.SliceRun
import Derived.Deep.AppendLies
namespace Go.Proofs.Ytcgpkonfneofdaa
open Go.RowKit

set_option maxRecDepth 100000 in
theorem catchSg_panicking (p : Addr) (x y : Int) (older : List PanicEntry) (w : World) (hc : w.cell? p = some (.int .i64 y)) (hz : w.frozen? p = false) :
    CallsD Try.prog 84 #[.pointer (some p)] (.panicking ({ v := .iface 25 (.int .i64 x), recovered := false } :: older)) w fun e u' w' =>
      e = .returned (.tuple #[]) ∧ u' = .panicking ({ v := .iface 25 (.int .i64 x), recovered := true } :: older) ∧ w' = w.setCell p (.int .i64 x) := by
  refine callsD_of_wpS Try.func84 rfl fun c₀ cs hu => ?_
  apply wpS_seq
  apply wpS_region
  simp [wpOpsS, go_sem, recoverD, hu, Try.ntmps84, Exit.thenS]
  apply wpS_seq
  apply wpS_region
  simp [wpOpsS, go_sem, Exit.thenS]
  refine wpS_cond (t := true) (by simp [Act.eval, Array.replicate]) ?_
  simp only [if_true]
  apply wpS_region
  simp [wpOpsS, go_sem, assert_errno, hc, hz, bodyPostS, results, Try.results84]

set_option maxRecDepth 100000 in
theorem catchSg_idle (p : Addr) (w : World) :
    CallsD Try.prog 84 #[.pointer (some p)] .returning w fun e u' w' => e = .returned (.tuple #[]) ∧ u' = .returning ∧ w' = w := by
  refine callsD_of_wpS Try.func84 rfl fun c₀ cs hu => ?_
  apply wpS_seq
  apply wpS_region
  simp [wpOpsS, go_sem, recoverD, hu, Try.ntmps84, Exit.thenS]
  apply wpS_seq
  apply wpS_region
  simp [wpOpsS, go_sem, Exit.thenS]
  refine wpS_cond (t := false) (by simp [Act.eval, Array.replicate]) ?_
  simp only [Bool.false_eq_true, if_false]
  refine wpS_of_wp (wp_skip ?_)
  cases c₀
  simp_all [bodyPostS, results, Try.results84]

set_option maxRecDepth 100000 in
theorem caughtSg_ret (F : FuncId) (cap : Array Value) (hF : ∀ w, Sem.run Try.prog (callFunc F cap) w = .ok (.enter F cap) w) (P : Value → World → Prop) (w : World) (hP : ∀ v w', P v w' → P v (w'.setCell ⟨w.heap.size, 0, none⟩ (.int .i64 0)))
    (h : Calls Try.prog F cap (w.alloc (.cells #[.int .i64 0] 25)) fun e w' => ∃ v, e = .returned v ∧ P v w' ∧ Below (w.heap.size + 1) (w.alloc (.cells #[.int .i64 0] 25)) w') :
    Calls Try.prog 53 #[.func (.func F) #[] cap] w fun e w' => ∃ v, e = .returned (.tuple #[v, .int .i64 0]) ∧ P v w' ∧ Below w.heap.size w w' := by
  have hmf : ∀ (fn : Fn) (first cap : Array Value) (w : World), (Instr.makeFunc fn first cap).run Try.prog w = .ok (.func fn first cap) w := fun _ _ _ _ => rfl
  have H : Hid (Calls Try.prog F cap (w.alloc (.cells #[.int .i64 0] 25)) fun e w' => ∃ v, e = .returned v ∧ P v w' ∧ Below (w.heap.size + 1) (w.alloc (.cells #[.int .i64 0] 25)) w') := h
  have HP : Hid (∀ v w', P v w' → P v (w'.setCell ⟨w.heap.size, 0, none⟩ (.int .i64 0))) := hP
  have HF : Hid (∀ w, Sem.run Try.prog (callFunc F cap) w = .ok (.enter F cap) w) := hF
  clear h hP hF
  go_enter_defers Try.func53, Try.ntmps53
  go_wp2_with fail
  rw [HF.out, Oper.upon_enter]
  refine H.out.mono ?_
  clear H
  rintro e w1 ⟨v, rfl, hv, hb⟩
  have hc : w1.cell? ⟨w.heap.size, 0, none⟩ = some (.int .i64 0) := by rw [hb.cell (by simp)]; simp
  have hf : w1.frozen? ⟨w.heap.size, 0, none⟩ = false := by rw [hb.frozen (by simp)]; simp
  have Hb : Hid (Below (w.heap.size + 1) (w.alloc (.cells #[.int .i64 0] 25)) w1) := hb
  have HV : Hid (P v (w1.setCell ⟨w.heap.size, 0, none⟩ (.int .i64 0))) := HP.out v w1 hv
  clear hb hv HP
  go_wp2
  refine leaves_cons (f := 84) (args := #[.pointer (some ⟨w.heap.size, 0, none⟩)]) (by simp) (by simp [go_sem]) ?_
  refine (catchSg_idle ⟨w.heap.size, 0, none⟩ _).mono ?_
  rintro e u' w'' ⟨rfl, rfl, rfl⟩
  simp [Leaves, settle, results, Try.results53, go_sem, hc]
  have hb := Hb.out
  exact ⟨HV.out, ((Below.refl _ _).alloc (Nat.le_refl _) _ |>.trans (hb.mono (by omega))).setCell (by simp) _⟩

set_option maxRecDepth 100000 in
theorem caughtSg_pan (F : FuncId) (cap : Array Value) (hF : ∀ w, Sem.run Try.prog (callFunc F cap) w = .ok (.enter F cap) w) (x : Int) (w : World)
    (h : Calls Try.prog F cap (w.alloc (.cells #[.int .i64 0] 25)) fun e w' => e = .panicked [{ v := .iface 25 (.int .i64 x), recovered := false }] ∧ Below (w.heap.size + 1) (w.alloc (.cells #[.int .i64 0] 25)) w') :
    Calls Try.prog 53 #[.func (.func F) #[] cap] w fun e w' => e = .returned (.tuple #[.string { data := #[] }, .int .i64 x]) ∧ Below w.heap.size w w' := by
  have hmf : ∀ (fn : Fn) (first cap : Array Value) (w : World), (Instr.makeFunc fn first cap).run Try.prog w = .ok (.func fn first cap) w := fun _ _ _ _ => rfl
  have H : Hid (Calls Try.prog F cap (w.alloc (.cells #[.int .i64 0] 25)) fun e w' => e = .panicked [{ v := .iface 25 (.int .i64 x), recovered := false }] ∧ Below (w.heap.size + 1) (w.alloc (.cells #[.int .i64 0] 25)) w') := h
  have HF : Hid (∀ w, Sem.run Try.prog (callFunc F cap) w = .ok (.enter F cap) w) := hF
  clear h hF
  go_enter_defers Try.func53, Try.ntmps53
  go_wp2_with fail
  rw [HF.out, Oper.upon_enter]
  refine H.out.mono ?_
  clear H
  rintro e w1 ⟨rfl, hb⟩
  have hc : w1.cell? ⟨w.heap.size, 0, none⟩ = some (.int .i64 0) := by rw [hb.cell (by simp)]; simp
  have hf : w1.frozen? ⟨w.heap.size, 0, none⟩ = false := by rw [hb.frozen (by simp)]; simp
  refine leaves_cons (f := 84) (args := #[.pointer (some ⟨w.heap.size, 0, none⟩)]) (by simp) (by simp [go_sem]) ?_
  refine (catchSg_panicking ⟨w.heap.size, 0, none⟩ x 0 [] _ hc hf).mono ?_
  rintro e u' w'' ⟨rfl, rfl, rfl⟩
  simp [Leaves, settle, results, Try.results53, go_sem, hc]
  exact ((Below.refl _ _).alloc (Nat.le_refl _) _ |>.trans (hb.mono (by omega))).setCell (by simp) _

set_option maxRecDepth 100000 in
theorem catchPl_panicking (p : Addr) (x y : Int) (older : List PanicEntry) (w : World) (hc : w.cell? p = some (.int .i64 y)) (hz : w.frozen? p = false) :
    CallsD Try.prog 90 #[.pointer (some p)] (.panicking ({ v := .iface 25 (.int .i64 x), recovered := false } :: older)) w fun e u' w' =>
      e = .returned (.tuple #[]) ∧ u' = .panicking ({ v := .iface 25 (.int .i64 x), recovered := true } :: older) ∧ w' = w.setCell p (.int .i64 x) := by
  refine callsD_of_wpS Try.func90 rfl fun c₀ cs hu => ?_
  apply wpS_seq
  apply wpS_region
  simp [wpOpsS, go_sem, recoverD, hu, Try.ntmps90, Exit.thenS]
  apply wpS_seq
  apply wpS_region
  simp [wpOpsS, go_sem, Exit.thenS]
  refine wpS_cond (t := true) (by simp [Act.eval, Array.replicate]) ?_
  simp only [if_true]
  apply wpS_region
  simp [wpOpsS, go_sem, assert_errno, hc, hz, bodyPostS, results, Try.results90]

set_option maxRecDepth 100000 in
theorem catchPl_idle (p : Addr) (w : World) :
    CallsD Try.prog 90 #[.pointer (some p)] .returning w fun e u' w' => e = .returned (.tuple #[]) ∧ u' = .returning ∧ w' = w := by
  refine callsD_of_wpS Try.func90 rfl fun c₀ cs hu => ?_
  apply wpS_seq
  apply wpS_region
  simp [wpOpsS, go_sem, recoverD, hu, Try.ntmps90, Exit.thenS]
  apply wpS_seq
  apply wpS_region
  simp [wpOpsS, go_sem, Exit.thenS]
  refine wpS_cond (t := false) (by simp [Act.eval, Array.replicate]) ?_
  simp only [Bool.false_eq_true, if_false]
  refine wpS_of_wp (wp_skip ?_)
  cases c₀
  simp_all [bodyPostS, results, Try.results90]


set_option maxRecDepth 100000 in
set_option maxHeartbeats 1000000 in
theorem caughtPl_ret (F : FuncId) (cap : Array Value) (hF : ∀ w, Sem.run Try.prog (callFunc F cap) w = .ok (.enter F cap) w) (P : Int → Option Addr → Nat → Nat → World → Prop) (w : World) (hP : ∀ m a n c w' i u j, (j = w.heap.size ∨ j = w.heap.size + 1) → P m a n c w' → P m a n c (w'.setCell ⟨j, i, none⟩ u))
    (h : Calls Try.prog F cap ((w.alloc (.cells #[.int .i64 0, .slice none 0 0] 50)).alloc (.cells #[.int .i64 0] 25)) fun e w' => ∃ m a n c, e = .returned (.agg #[.int .i64 m, .slice a n c]) ∧ P m a n c w' ∧ Below ((w.alloc (.cells #[.int .i64 0, .slice none 0 0] 50)).alloc (.cells #[.int .i64 0] 25)).heap.size ((w.alloc (.cells #[.int .i64 0, .slice none 0 0] 50)).alloc (.cells #[.int .i64 0] 25)) w') :
    Calls Try.prog 59 #[.func (.func F) #[] cap] w fun e w' => ∃ m a n c, e = .returned (.tuple #[.agg #[.int .i64 m, .slice a n c], .int .i64 0]) ∧ P m a n c w' ∧ Below w.heap.size w w' := by
  have hmf : ∀ (fn : Fn) (first cap : Array Value) (w : World), (Instr.makeFunc fn first cap).run Try.prog w = .ok (.func fn first cap) w := fun _ _ _ _ => rfl
  have H : Hid (Calls Try.prog F cap ((w.alloc (.cells #[.int .i64 0, .slice none 0 0] 50)).alloc (.cells #[.int .i64 0] 25)) fun e w' => ∃ m a n c, e = .returned (.agg #[.int .i64 m, .slice a n c]) ∧ P m a n c w' ∧ Below ((w.alloc (.cells #[.int .i64 0, .slice none 0 0] 50)).alloc (.cells #[.int .i64 0] 25)).heap.size ((w.alloc (.cells #[.int .i64 0, .slice none 0 0] 50)).alloc (.cells #[.int .i64 0] 25)) w') := h
  have HP : Hid (∀ m a n c w' i u j, (j = w.heap.size ∨ j = w.heap.size + 1) → P m a n c w' → P m a n c (w'.setCell ⟨j, i, none⟩ u)) := hP
  have HF : Hid (∀ w, Sem.run Try.prog (callFunc F cap) w = .ok (.enter F cap) w) := hF
  clear h hP hF
  go_enter_defers Try.func59, Try.ntmps59
  go_wp2_with fail
  rw [HF.out, Oper.upon_enter]
  refine H.out.mono ?_
  clear H
  rintro e w1 ⟨m, a, n, c, rfl, hq, hb⟩
  have e0 : w1.cell? ⟨w.heap.size + 1, 0, none⟩ = some (.int .i64 0) := ext_cell hb (at_new _ _ 25 _ 0 _ (by simp) rfl)
  have ef : ∀ j, w1.frozen? ⟨w.heap.size + 1, j, none⟩ = false := fun j => (hb.frozen (p := ⟨w.heap.size + 1, j, none⟩) (by simp)).trans (by simp)
  have c0 : w1.cell? ⟨w.heap.size, 0, none⟩ = some (.int .i64 0) := ext_cell hb (ext_cell (grow_alloc (Below.refl _ _) _) (at_new w _ 50 _ 0 _ rfl rfl))
  have c1 : w1.cell? ⟨w.heap.size, 1, none⟩ = some (.slice none 0 0) := ext_cell hb (ext_cell (grow_alloc (Below.refl _ _) _) (at_new w _ 50 _ 1 _ rfl rfl))
  have cf : ∀ j, w1.frozen? ⟨w.heap.size, j, none⟩ = false := fun j => (hb.frozen (p := ⟨w.heap.size, j, none⟩) (by simp; omega)).trans (((grow_alloc (Below.refl (w.alloc (.cells #[.int .i64 0, .slice none 0 0] 50)).heap.size (w.alloc (.cells #[.int .i64 0, .slice none 0 0] 50))) (.cells #[.int .i64 0] 25)).frozen (p := ⟨w.heap.size, j, none⟩) (by simp)).trans (by simp))
  have HV : Hid (P m a n c w1) := hq
  have B1 : Hid (Below w.heap.size w w1) := grow_trans (grow_alloc (grow_alloc (Below.refl _ _) _) _) hb
  clear hb hq
  go_wp2
  refine leaves_cons (f := 90) (args := #[.pointer (some ⟨w.heap.size + 1, 0, none⟩)]) (by simp) (by simp [go_sem]) ?_
  refine (catchPl_idle ⟨w.heap.size + 1, 0, none⟩ _).mono ?_
  rintro e u' w'' ⟨rfl, rfl, rfl⟩
  simp [Leaves, settle, results, Try.results59, go_sem, e0, c0, c1]
  refine ⟨_, _, _, _, ⟨rfl, rfl, rfl, rfl⟩, ?_, ?_⟩
  · exact HP.out _ _ _ _ _ 0 _ _ (.inr rfl) (HP.out _ _ _ _ _ 1 _ _ (.inl rfl) (HP.out _ _ _ _ _ 0 _ _ (.inl rfl) HV.out))
  · exact grow_set (grow_set (grow_set B1.out (Nat.le_refl _) _) (Nat.le_refl _) _) (by simp) _

set_option maxRecDepth 100000 in
set_option maxHeartbeats 1000000 in
theorem caughtPl_pan (F : FuncId) (cap : Array Value) (hF : ∀ w, Sem.run Try.prog (callFunc F cap) w = .ok (.enter F cap) w) (x : Int) (w : World)
    (h : Calls Try.prog F cap ((w.alloc (.cells #[.int .i64 0, .slice none 0 0] 50)).alloc (.cells #[.int .i64 0] 25)) fun e w' => e = .panicked [{ v := .iface 25 (.int .i64 x), recovered := false }] ∧ Below ((w.alloc (.cells #[.int .i64 0, .slice none 0 0] 50)).alloc (.cells #[.int .i64 0] 25)).heap.size ((w.alloc (.cells #[.int .i64 0, .slice none 0 0] 50)).alloc (.cells #[.int .i64 0] 25)) w') :
    Calls Try.prog 59 #[.func (.func F) #[] cap] w fun e w' => e = .returned (.tuple #[.agg #[.int .i64 0, .slice none 0 0], .int .i64 x]) ∧ Below w.heap.size w w' := by
  have hmf : ∀ (fn : Fn) (first cap : Array Value) (w : World), (Instr.makeFunc fn first cap).run Try.prog w = .ok (.func fn first cap) w := fun _ _ _ _ => rfl
  have H : Hid (Calls Try.prog F cap ((w.alloc (.cells #[.int .i64 0, .slice none 0 0] 50)).alloc (.cells #[.int .i64 0] 25)) fun e w' => e = .panicked [{ v := .iface 25 (.int .i64 x), recovered := false }] ∧ Below ((w.alloc (.cells #[.int .i64 0, .slice none 0 0] 50)).alloc (.cells #[.int .i64 0] 25)).heap.size ((w.alloc (.cells #[.int .i64 0, .slice none 0 0] 50)).alloc (.cells #[.int .i64 0] 25)) w') := h
  have HF : Hid (∀ w, Sem.run Try.prog (callFunc F cap) w = .ok (.enter F cap) w) := hF
  clear h hF
  go_enter_defers Try.func59, Try.ntmps59
  go_wp2_with fail
  rw [HF.out, Oper.upon_enter]
  refine H.out.mono ?_
  clear H
  rintro e w1 ⟨rfl, hb⟩
  have e0 : w1.cell? ⟨w.heap.size + 1, 0, none⟩ = some (.int .i64 0) := ext_cell hb (at_new _ _ 25 _ 0 _ (by simp) rfl)
  have ef : w1.frozen? ⟨w.heap.size + 1, 0, none⟩ = false := (hb.frozen (p := ⟨w.heap.size + 1, 0, none⟩) (by simp)).trans (by simp)
  have c0 : w1.cell? ⟨w.heap.size, 0, none⟩ = some (.int .i64 0) := ext_cell hb (ext_cell (grow_alloc (Below.refl _ _) _) (at_new w _ 50 _ 0 _ rfl rfl))
  have c1 : w1.cell? ⟨w.heap.size, 1, none⟩ = some (.slice none 0 0) := ext_cell hb (ext_cell (grow_alloc (Below.refl _ _) _) (at_new w _ 50 _ 1 _ rfl rfl))
  have B1 : Below w.heap.size w w1 := grow_trans (grow_alloc (grow_alloc (Below.refl _ _) _) _) hb
  clear hb
  refine leaves_cons (f := 90) (args := #[.pointer (some ⟨w.heap.size + 1, 0, none⟩)]) (by simp) (by simp [go_sem]) ?_
  refine (catchPl_panicking ⟨w.heap.size + 1, 0, none⟩ x 0 [] _ e0 ef).mono ?_
  rintro e u' w'' ⟨rfl, rfl, rfl⟩
  simp [Leaves, settle, results, Try.results59, go_sem, e0, c0, c1]
  exact grow_set B1 (by simp) _
end Go.Proofs.Ytcgpkonfneofdaa

namespace Go.Proofs.Ytcgpkonfneofdaa
open Go.RowKit

theorem few_of {m : Int} {l : List TxA} (h : planE m l = 0) : l.length ≤ 8 ∧ Few l := by
  obtain ⟨_, _, h3⟩ := planE_zero h
  refine ⟨chkL_small h3, fun k hk => ?_⟩
  have hx := chkL_at h3 k hk
  generalize l.getD k x0 = x at *
  have hmany : manyE x.rs.length x.gs.length x.ss.length = 0 := by
    by_cases hm : manyE x.rs.length x.gs.length x.ss.length = 0
    · exact hm
    · have h1 := chk_many x.rs x.gs x.ss hm
      have h2 : chkTx x.rs x.gs x.ss = 0 := hx
      omega
  obtain ⟨m1, m2, m3, _⟩ := many_small _ _ _ hmany
  exact ⟨by omega, by omega, by omega⟩
theorem plB_byt (m : Int) (l : List TxA) : Byt (plB m l) := by
  have hm : ∀ x : Int, 0 ≤ x % 256 ∧ x % 256 < 256 := fun x => ⟨Int.emod_nonneg _ (by decide), Int.emod_lt_of_pos _ (by decide)⟩
  have hv : ∀ n : Int, Byt (valL n) := valL_byt
  have ho : ∀ k n : Int, Byt (opB k n) := fun k n b hb => by
    rcases List.mem_cons.1 hb with rfl | hb
    · exact hm _
    · exact hv n b hb
  have hg : ∀ x : Gd, Byt (gdB x.k x.ak x.an x.bk x.bn) := fun x b hb => by
    rcases List.mem_cons.1 hb with rfl | hb
    · exact hm _
    · rcases List.mem_append.1 hb with hb | hb
      · exact ho _ _ b hb
      · exact ho _ _ b hb
  have hs : ∀ x : St, Byt (stB x.key x.op x.ak x.an x.bk x.bn) := fun x b hb => by
    rcases List.mem_cons.1 hb with rfl | hb
    · exact hm _
    · rcases List.mem_cons.1 hb with rfl | hb
      · exact hm _
      · rcases List.mem_append.1 hb with hb | hb
        · exact ho _ _ b hb
        · exact ho _ _ b hb
  have hx : ∀ x : TxA, Byt (xB x) := fun x b hb => by
    rcases List.mem_append.1 hb with hb | hb
    · rcases List.mem_append.1 hb with hb | hb
      · rcases List.mem_cons.1 hb with rfl | hb
        · exact hm _
        · obtain ⟨z, _, rfl⟩ := List.mem_map.1 hb
          exact hm _
      · rcases List.mem_cons.1 hb with rfl | hb
        · exact hm _
        · obtain ⟨z, _, hz⟩ := List.mem_flatMap.1 hb
          exact hg z b hz
    · rcases List.mem_cons.1 hb with rfl | hb
      · exact hm _
      · obtain ⟨z, _, hz⟩ := List.mem_flatMap.1 hb
        exact hs z b hz
  intro b hb
  rcases List.mem_cons.1 hb with rfl | hb
  · exact hm _
  · rcases List.mem_cons.1 hb with rfl | hb
    · exact hm _
    · obtain ⟨z, _, hz⟩ := List.mem_flatMap.1 hb
      exact hx z b hz
/-- A row of bytes turned into a string. -/
theorem conv_bytes (w : World) (base g cap : Nat) (bs : List Int) (h : w.ownsRow base 5 1 (.slice (some ⟨g, 0, none⟩) bs.length cap) bs.length (bs.map (Value.int .u8))) (hB : Byt bs) :
    ∃ S : ByteArray, (convert 95 9 (.slice (some ⟨g, 0, none⟩) bs.length cap)).run Try.prog w = .ok (.string S) w ∧ lst S = bs := by
  have hl := run_loadCells_list (P := Try.prog) w ⟨g, 0, none⟩ (bs.map (Value.int .u8)) (fun j v hj => h.cells (g := g) rfl j v hj)
  simp only [List.length_map] at hl
  refine ⟨_, (run_convert_bytes_string w 95 9 5 _ _ _ Try.underlying95 (by kernel_rfl) (by kernel_rfl)).trans (run_bytesToString w ⟨g, 0, none⟩ bs.length cap bs hl), ?_⟩
  rw [lst_foldl bs _ hB]
  rfl
variable (la : Option Addr) (lc : Nat) (l : List TxA) (m : Int)
set_option maxRecDepth 100000 in
set_option maxHeartbeats 1500000 in
theorem write1_ok (B : Nat) (w : World) (c0 : w.cell? ⟨B, 0, none⟩ = some (.int .i64 m)) (c1 : w.cell? ⟨B, 1, none⟩ = some (.slice la l.length lc)) (hl : IsTxs w la l) (hE : planE m l = 0) :
    Calls Try.prog 54 #[.pointer (some ⟨B, 0, none⟩)] w fun e w' => ∃ v, e = .returned v ∧ (∃ S, v = .string S ∧ lst S = plB m l) ∧ Below w.heap.size w w' := by
  obtain ⟨h8, hfew⟩ := few_of hE
  have HFW : Hid (Few l) := hfew
  have HL : Hid (IsTxs w la l) := hl
  have CP := placeCheck_any la lc l m w hl
  rw [hE] at CP
  have HCP := hid CP
  clear hl hE CP hfew
  go_enter Try.func54, Try.ntmps54
  go_wp2_with fail
  refine HCP.out.mono ?_
  rintro e w1 ⟨rfl, hb1⟩
  have d0 := ext_cell hb1 c0
  have d1 := ext_cell hb1 c1
  clear c0 c1 HCP
  go_wp2_with fail
  refine (leave_zero [0] _ 1 _ (by simp) rfl (errs1 _ _ _ rfl)).mono ?_
  rintro e w' ⟨rfl, rfl⟩
  have HB : B < w1.heap.size := World.block_lt_of_cell? w1 ⟨B, 0, none⟩ d0
  have b0 : Below w.heap.size w ((w1.alloc (.cells #[.int .i64 0] 25)).alloc (.cells #[.slice none 0 0] 97)) := grow_trans hb1 (grow_alloc (grow_alloc (Below.refl _ _) _) _)
  have B0 : Hid (Below w.heap.size w ((w1.alloc (.cells #[.int .i64 0] 25)).alloc (.cells #[.slice none 0 0] 97))) := b0
  have hsz := hb1.size
  clear b0 hb1
  go_wp2_with fail
  refine (wrPlan_any (w1.heap.size + 1) m l la lc [] _ ⟨.slice none 0 0, by simp, by simp, World.ownsRow_nil _ _ _ _⟩ (by simp) h8 HFW.out (fun w' hb => HL.out.below (B0.out.trans (hb.mono (by omega))))).mono ?_
  rintro e w3 ⟨rfl, h3, k3⟩
  obtain ⟨v, hc, hf, ho⟩ := h3
  have B3 : Hid (Below w.heap.size w w3) := B0.out.trans ((k3.below (by simp)).mono (by omega))
  obtain ⟨g, cap, hv, _, _⟩ := ho.form (by simp [plB])
  subst hv
  rw [List.nil_append] at ho hc
  obtain ⟨S, hS, hSl⟩ := conv_bytes w3 _ g cap _ ho (plB_byt m l)
  have HS : Hid (lst S = plB m l) := hSl
  clear k3 ho hSl
  generalize (plB m l).length = N at *
  go_wp2
  go_ret
  exact ⟨_, rfl, ⟨S, rfl, HS.out⟩, B3.out⟩
set_option maxRecDepth 100000 in
set_option maxHeartbeats 1500000 in
theorem write1_bad (B : Nat) (w : World) (c0 : w.cell? ⟨B, 0, none⟩ = some (.int .i64 m)) (c1 : w.cell? ⟨B, 1, none⟩ = some (.slice la l.length lc)) (hl : IsTxs w la l) (hE : ¬ planE m l = 0) :
    Calls Try.prog 54 #[.pointer (some ⟨B, 0, none⟩)] w fun e w' => e = .panicked [{ v := .iface 25 (.int .i64 (planE m l)), recovered := false }] ∧ Below w.heap.size w w' := by
  have HCP := hid (placeCheck_any la lc l m w hl)
  have HE : Hid (¬ planE m l = 0) := hE
  clear hl hE
  generalize planE m l = E at *
  go_enter Try.func54, Try.ntmps54
  go_wp2_with fail
  refine HCP.out.mono ?_
  rintro e w1 ⟨rfl, hb1⟩
  have B1 : Hid (Below w.heap.size w w1) := hb1
  clear hb1 HCP
  go_wp2_with fail
  refine (leave_bad [E] 0 E w1.heap.size 1 _ (by simp) (by simp) (by simp) rfl HE.out (errs1 _ _ _ rfl)).mono ?_
  rintro e w' ⟨rfl, rfl⟩
  go_wp2
  exact ⟨rfl, rfl, grow_alloc B1.out _⟩
/-- What Write's bytes are. -/
def wrL (m : Int) (l : List TxA) : List Int := if planE m l = 0 then plB m l else []
set_option maxRecDepth 100000 in
set_option maxHeartbeats 1500000 in
theorem wireWrite_any (w : World) (hl : IsTxs w la l) :
    Calls Try.prog 16 #[.agg #[.int .i64 m, .slice la l.length lc]] w fun e w' => ∃ S, e = .returned (.tuple #[.string S, .int .i64 (planE m l)]) ∧ lst S = wrL m l ∧ Below w.heap.size w w' := by
  have hmf : ∀ (fn : Fn) (first cap : Array Value) (w : World), (Instr.makeFunc fn first cap).run Try.prog w = .ok (.func fn first cap) w := fun _ _ _ _ => rfl
  obtain ⟨W, hWe⟩ : ∃ W, W = w.alloc (.cells #[.int .i64 m, .slice la l.length lc] 50) := ⟨_, rfl⟩
  have HWE : Hid (W = w.alloc (.cells #[.int .i64 m, .slice la l.length lc] 50)) := hWe
  have c0 : W.cell? ⟨w.heap.size, 0, none⟩ = some (.int .i64 m) := by subst hWe; simp
  have c1 : W.cell? ⟨w.heap.size, 1, none⟩ = some (.slice la l.length lc) := by subst hWe; simp
  have BW : Below w.heap.size w W := by subst hWe; exact grow_alloc (Below.refl _ _) _
  have HL : IsTxs W la l := hl.below BW
  clear hl hWe
  have E0 : Below W.heap.size W (W.alloc (.cells #[.int .i64 0] 25)) := grow_alloc (Below.refl _ _) _
  have e0 := ext_cell E0 c0
  have e1 := ext_cell E0 c1
  have BW' : Hid (Below w.heap.size w W) := BW
  by_cases hE : planE m l = 0
  · have HC := caughtSg_ret 54 #[.pointer (some ⟨w.heap.size, 0, none⟩)] (fun _ => rfl) (fun v _ => ∃ S, v = .string S ∧ lst S = plB m l) W (fun _ _ h => h) ((write1_ok la lc l m w.heap.size _ e0 e1 (HL.below E0) hE).mono fun e w' ⟨v, h1, h2, h3⟩ => ⟨v, h1, h2, by simpa using h3⟩)
    have HC' := hid HC
    have HV : Hid (wrL m l = plB m l) := if_pos hE
    rw [hE]
    clear HC HL E0 e0 e1 hE c0 c1 BW
    go_enter Try.func16, Try.ntmps16
    go_upto_region 1 with fail
    rw [← HWE.out]
    go_wp2_with fail
    refine HC'.out.mono ?_
    rintro e w1 ⟨v, rfl, ⟨S, rfl, hS⟩, hb⟩
    have HS : Hid (lst S = wrL m l) := hS.trans HV.out.symm
    have HB1 : Hid (Below w.heap.size w w1) := grow_trans BW'.out hb
    clear hb hS
    go_wp2
    go_ret2
    exact ⟨S, rfl, HS.out, HB1.out⟩
  · have HC := caughtSg_pan 54 #[.pointer (some ⟨w.heap.size, 0, none⟩)] (fun _ => rfl) (planE m l) W ((write1_bad la lc l m w.heap.size _ e0 e1 (HL.below E0) hE).mono fun e w' ⟨h1, h3⟩ => ⟨h1, by simpa using h3⟩)
    have HC' := hid HC
    have HV : Hid (wrL m l = []) := if_neg hE
    clear HC HL E0 e0 e1 hE c0 c1 BW
    generalize planE m l = E at *
    go_enter Try.func16, Try.ntmps16
    go_upto_region 1 with fail
    rw [← HWE.out]
    go_wp2_with fail
    refine HC'.out.mono ?_
    rintro e w1 ⟨rfl, hb⟩
    have HB1 : Hid (Below w.heap.size w w1) := grow_trans BW'.out hb
    clear hb
    go_wp2
    go_ret2
    exact ⟨_, rfl, HV.out.symm, HB1.out⟩
end Go.Proofs.Ytcgpkonfneofdaa
