/-
  graph.Swap: one and the next change places, in a copy.
  Conditions: the transactions can be read.
-/
import Derived.Test.YtikolifbljnokaaGraphD
import Derived.Test.YtikolifbljnokaaSeqC
import Derived.Maps.AppendAt
import Derived.WalkKit
import Derived.WalkSpells
import Derived.WalkLawsBesides
import Derived.Defers
import Derived.Recover
import Derived.ProofKit
import Derived.Deep.RegionHeld
import Derived.Deep.RegionHeld3
import Derived.BigQuiet
import Derived.Deep.RegionLaw
import Derived.Deep.DeepCutAuto
import Derived.IntWalk
namespace Go.Proofs.Ytikolifbljnokaa
open Go.RowKit

/-- Is there such a one, and a next? -/
def nextE (n : Int) (k : Nat) : Int := if n < 0 ∨ (k : Int) - 1 ≤ n then 5 else 0

set_option maxRecDepth 100000 in
theorem nextError_any (la : Option Addr) (lc k : Nat) (n : Int) (hk : k ≤ maxLen) (w : World) :
    Calls Try.prog 46 #[.slice la k lc, .int .i64 n] w fun e w' => e = .returned (.int .i64 (nextE n k)) ∧ Below w.heap.size w w' := by
  have hw0 : IntKind.i64.wrap ((k : Int) - 1) = (k : Int) - 1 := by
    rw [IntWalk.i64_in] <;> (unfold maxLen at hk; omega)
  by_cases h1 : n < 0
  · have H : nextE n k = 5 := if_pos (.inl h1)
    rw [H]
    clear H
    go_enter Try.func46, Try.ntmps46
    go_wp2
    go_ret
    exact ⟨rfl, Below.refl _ _⟩
  · by_cases h2 : (k : Int) - 1 ≤ n
    · have H : nextE n k = 5 := if_pos (.inr h2)
      rw [H]
      clear H
      go_enter Try.func46, Try.ntmps46
      go_wp2
      go_ret
      exact ⟨rfl, Below.refl _ _⟩
    · have H : nextE n k = 0 := if_neg (by omega)
      rw [H]
      clear H
      go_enter Try.func46, Try.ntmps46
      go_wp2
      go_ret
      exact ⟨rfl, Below.refl _ _⟩

theorem nextE_zero {n : Int} {k : Nat} (h : nextE n k = 0) : 0 ≤ n ∧ n + 1 < k := by
  unfold nextE at h
  by_cases c : n < 0 ∨ (k : Int) - 1 ≤ n
  · rw [if_pos c] at h; omega
  · omega

/-- One and the next change places. -/
def swapX (l : List TxA) (n : Nat) : List TxA := (l.set n (l.getD (n + 1) x0)).set (n + 1) (l.getD n x0)
def set3 (L : List Value) (i : Nat) (x : TxA) : List Value := ((L.set (i * 3) (.slice x.ra x.rs.length x.rc)).set (i * 3 + 1) (.slice x.ga x.gs.length x.gc)).set (i * 3 + 2) (.slice x.sa x.ss.length x.sc)
theorem flatX_set : ∀ (l : List TxA) (i : Nat) (x : TxA), i < l.length → flatX (l.set i x) = set3 (flatX l) i x
  | [], i, x, h => by simp at h
  | y :: t, 0, x, _ => by simp [flatX, xcells, set3]
  | y :: t, i + 1, x, h => by
    have ih := flatX_set t i x (by simpa using h)
    have e1 : (i + 1) * 3 = i * 3 + 1 + 1 + 1 := by omega
    rw [List.set_cons_succ]
    unfold set3 at *
    rw [e1]
    simp only [flatX, xcells, List.cons_append, List.nil_append, List.set_cons_succ]
    rw [ih]

theorem TxRow.at {C : Nat} {w : World} {v : Value} {l : List TxA} (h : TxRow C w v l) (h0 : 0 < l.length) : ∃ g cap, v = .slice (some ⟨g, 0, none⟩) l.length cap ∧ C ≤ g ∧ ∀ i, i < l.length → w.cell? ⟨g, i * 3, none⟩ = some (.slice (l.getD i x0).ra (l.getD i x0).rs.length (l.getD i x0).rc) ∧ w.cell? ⟨g, i * 3 + 1, none⟩ = some (.slice (l.getD i x0).ga (l.getD i x0).gs.length (l.getD i x0).gc) ∧ w.cell? ⟨g, i * 3 + 2, none⟩ = some (.slice (l.getD i x0).sa (l.getD i x0).ss.length (l.getD i x0).sc) ∧ w.frozen? ⟨g, i * 3, none⟩ = false ∧ w.frozen? ⟨g, i * 3 + 1, none⟩ = false ∧ w.frozen? ⟨g, i * 3 + 2, none⟩ = false := by
  rcases h.1.2 with ⟨rfl, h1⟩ | ⟨g, cap, cur, rfl, hb, hg, hnc, hcm, hcs, htake⟩
  · omega
  · refine ⟨g, cap, rfl, hb, fun i hi => ?_⟩
    have hc : ∀ j, j < 3 → w.cell? ⟨g, i * 3 + j, none⟩ = (xcells (l.getD i x0))[j]? := fun j hj => by
      rw [h.1.cellAt (i * 3 + j) (by omega)]
      exact flatX_at l i j hi hj
    exact ⟨hc 0 (by omega), hc 1 (by omega), hc 2 (by omega), h.1.frozenAt _, h.1.frozenAt _, h.1.frozenAt _⟩

/-- A transaction laid into a row of one's own. -/
def put3 (w : World) (g i : Nat) (x : TxA) : World := ((w.setCell ⟨g, i * 3, none⟩ (.slice x.ra x.rs.length x.rc)).setCell ⟨g, i * 3 + 1, none⟩ (.slice x.ga x.gs.length x.gc)).setCell ⟨g, i * 3 + 2, none⟩ (.slice x.sa x.ss.length x.sc)
theorem put3_grown (w : World) (g i : Nat) (x : TxA) : w.grownBy (put3 w g i x) (some g) := ((grown_one w g _ _).trans (grown_one _ g _ _)).trans (grown_one _ g _ _)
theorem TxRow.put {C : Nat} {w : World} {g cap k : Nat} {l : List TxA} (h : TxRow C w (.slice (some ⟨g, 0, none⟩) k cap) l) (hk : k = l.length) (i : Nat) (hi : i < l.length) (x : TxA) (hx : IsX w x ∧ XIn C w.heap.size (.slice (some ⟨g, 0, none⟩) k cap) x) : TxRow C (put3 w g i x) (.slice (some ⟨g, 0, none⟩) k cap) (l.set i x) := by
  have hs : (put3 w g i x).heap.size = w.heap.size := by simp [put3]
  subst hk
  refine ⟨?_, fun y hy => ?_⟩
  · rw [List.length_set, flatX_set l i x hi]
    exact (((h.1.stored (i * 3) _).1.stored (i * 3 + 1) _).1.stored (i * 3 + 2) _).1
  · have key : IsX w y ∧ XIn C w.heap.size (.slice (some ⟨g, 0, none⟩) l.length cap) y := by
      rcases List.mem_or_eq_of_mem_set hy with hy | rfl
      · exact h.2 y hy
      · exact hx
    refine ⟨key.1.keptBy (put3_grown w g i x) (fun ad e q => key.2.nr ad e ?_) (fun ad e q => key.2.ng ad e ?_) (fun ad e q => key.2.ns ad e ?_), by rw [hs]; exact key.2⟩
    · exact q
    · exact q
    · exact q
theorem TxRow.swap {C : Nat} {w : World} {g cap k : Nat} {l : List TxA} (h : TxRow C w (.slice (some ⟨g, 0, none⟩) k cap) l) (hk : k = l.length) (n : Nat) (hn : n + 1 < l.length) : TxRow C (put3 (put3 w g n (l.getD (n + 1) x0)) g (n + 1) (l.getD n x0)) (.slice (some ⟨g, 0, none⟩) k cap) (swapX l n) := by
  have m1 : l.getD (n + 1) x0 ∈ l := by simp [List.getD, hn]
  have m0 : l.getD n x0 ∈ l := by
    have : n < l.length := by omega
    simp [List.getD, this]
  refine (h.put hk n (by omega) _ (h.2 _ m1)).put (by rw [List.length_set]; exact hk) (n + 1) (by rw [List.length_set]; exact hn) _ ?_
  have key := h.2 _ m0
  refine ⟨key.1.keptBy (put3_grown w g n _) (fun ad e q => key.2.nr ad e ?_) (fun ad e q => key.2.ng ad e ?_) (fun ad e q => key.2.ns ad e ?_), ?_⟩
  · exact q
  · exact q
  · exact q
  · rw [show (put3 w g n (l.getD (n + 1) x0)).heap.size = w.heap.size by simp [put3]]
    exact key.2
theorem swapX_core {l m : List TxA} (h : l.map TxA.core = m.map TxA.core) (n : Nat) : (swapX l n).map TxA.core = (swapX m n).map TxA.core := by
  unfold swapX
  rw [List.map_set, List.map_set, List.map_set, List.map_set, h, core_at h, core_at h]
theorem put3_below {w w' : World} (h : Below w.heap.size w w') (g i : Nat) (x : TxA) (hg : w.heap.size ≤ g) : Below w.heap.size w (put3 w' g i x) := grow_set (grow_set (grow_set h hg _) hg _) hg _

variable (la : Option Addr) (lc : Nat) (l : List TxA)

set_option maxRecDepth 100000 in
set_option maxHeartbeats 1000000 in
theorem swap1_pan (n : Int) (p q : Nat) (w : World) (p0 : w.cell? ⟨p, 0, none⟩ = some (.slice la l.length lc)) (q0 : w.cell? ⟨q, 0, none⟩ = some (.int .i64 n)) (hl : IsTxs w la l) (hm : l.length ≤ maxLen) (hE : ¬ firstNZ [chkL l, nextE n l.length] = 0) :
    Calls Try.prog 45 #[.pointer (some ⟨p, 0, none⟩), .pointer (some ⟨q, 0, none⟩)] w fun e w' => e = .panicked [{ v := .iface 28 (.int .i64 (firstNZ [chkL l, nextE n l.length])), recovered := false }] ∧ Below w.heap.size w w' := by
  have HL : Hid (IsTxs w la l) := hl
  have HE : Hid (¬ firstNZ [chkL l, nextE n l.length] = 0) := hE
  have KS : Hid (∀ w', Below w.heap.size w w' → Below w.heap.size w w' ∧ w'.cell? ⟨p, 0, none⟩ = some (.slice la l.length lc) ∧ w'.cell? ⟨q, 0, none⟩ = some (.int .i64 n)) := fun w' h => ⟨h, ext_cell h p0, ext_cell h q0⟩
  have C46 : Hid (∀ w', Calls Try.prog 46 #[.slice la l.length lc, .int .i64 n] w' fun e w'' => e = .returned (.int .i64 (nextE n l.length)) ∧ Below w'.heap.size w' w'') := fun w' => nextError_any la lc l.length n hm w'
  clear hl hE hm
  go_enter Try.func45, Try.ntmps45
  go_wp2_with fail
  go_region_held (fun w' => Below w.heap.size w w' ∧ w'.cell? ⟨p, 0, none⟩ = some (.slice la l.length lc) ∧ w'.cell? ⟨q, 0, none⟩ = some (.int .i64 n)) ((refine KS.out _ ?_; go_split_ands; repeat (first | assumption | exact Below.refl _ _ | refine grow_drew ?_ | refine grow_alloc ?_ _ | refine grow_trans ?_ (by assumption))))
    (first
      | (go_at_call 46; refine (C46.out _).mono ?_; rintro e wb ⟨rfl, hbb⟩)
      | (go_at_call 42; refine (orderCheck_any la lc l _ ?_).mono ?_; (refine HL.out.below ?_; go_split_ands; repeat (first | assumption | exact Below.refl _ _ | refine grow_drew ?_ | refine grow_alloc ?_ _ | refine grow_trans ?_ (by assumption))); rintro e wa ⟨rfl, hba⟩)
      | (go_at_call 41; refine (panic_or (leave_nz [chkL l, nextE n l.length] _ 2 _ (by simp) HE.out ?_) (.tuple #[])).mono ?_; (exact errs2 _ _ _ _ (by simp)); rintro e w' (⟨rfl, rfl⟩ | ⟨hF, rfl, rfl⟩); (refine ⟨rfl, rfl, ?_⟩; go_split_ands; repeat (first | assumption | exact Below.refl _ _ | refine grow_drew ?_ | refine grow_alloc ?_ _ | refine grow_trans ?_ (by assumption)))))
  exact (‹Hid False› : Hid False).out.elim

set_option maxRecDepth 100000 in
set_option maxHeartbeats 4000000 in
theorem swap1_to (n : Nat) (p q : Nat) (Post : Ending → World → Prop) (w : World) (p0 : w.cell? ⟨p, 0, none⟩ = some (.slice la l.length lc)) (q0 : w.cell? ⟨q, 0, none⟩ = some (.int .i64 n)) (hl : IsTxs w la l) (hm : l.length ≤ maxLen) (hE : firstNZ [chkL l, nextE n l.length] = 0) (hn : n + 1 < l.length) (hC : chkL l = 0)
    (h1 : clashX (gX l n) (gX l (n + 1)) = true → ∀ w', Below w.heap.size w w' → Post (.panicked [{ v := .iface 28 (.int .i64 1), recovered := false }]) w')
    (h0 : clashX (gX l n) (gX l (n + 1)) = false → ∀ v cl w', TxRow w.heap.size w' v cl → cl.map TxA.core = (swapX l n).map TxA.core → Below w.heap.size w w' → Post (.returned v) w') :
    Calls Try.prog 45 #[.pointer (some ⟨p, 0, none⟩), .pointer (some ⟨q, 0, none⟩)] w Post := by
  have HL : Hid (IsTxs w la l) := hl
  have HE : Hid (firstNZ [chkL l, nextE n l.length] = 0) := hE
  have H1 : Hid (clashX (gX l n) (gX l (n + 1)) = true → ∀ w', Below w.heap.size w w' → Post (.panicked [{ v := .iface 28 (.int .i64 1), recovered := false }]) w') := h1
  have H0 : Hid (clashX (gX l n) (gX l (n + 1)) = false → ∀ v cl w', TxRow w.heap.size w' v cl → cl.map TxA.core = (swapX l n).map TxA.core → Below w.heap.size w w' → Post (.returned v) w') := h0
  have KS : Hid (∀ w', Below w.heap.size w w' → Below w.heap.size w w' ∧ w'.cell? ⟨p, 0, none⟩ = some (.slice la l.length lc) ∧ w'.cell? ⟨q, 0, none⟩ = some (.int .i64 n)) := fun w' h => ⟨h, ext_cell h p0, ext_cell h q0⟩
  have C46 : Hid (∀ w', Calls Try.prog 46 #[.slice la l.length lc, .int .i64 n] w' fun e w'' => e = .returned (.int .i64 (nextE n l.length)) ∧ Below w'.heap.size w' w'') := fun w' => nextError_any la lc l.length n hm w'
  have C47 : Hid (∀ w', Below w.heap.size w w' → Calls Try.prog 47 #[.slice la l.length lc] w' fun e w'' => ∃ v cl, e = .returned v ∧ TxRow w'.heap.size w'' v cl ∧ cl.map TxA.core = l.map TxA.core ∧ Below w'.heap.size w' w'') := fun w' hb => copy_any la lc l w' (hl.below hb) hC
  have C11 : Hid (∀ w', Below w.heap.size w w' → Calls Try.prog 11 #[.agg #[.slice (l.getD n x0).ra (l.getD n x0).rs.length (l.getD n x0).rc, .slice (l.getD n x0).ga (l.getD n x0).gs.length (l.getD n x0).gc, .slice (l.getD n x0).sa (l.getD n x0).ss.length (l.getD n x0).sc], .agg #[.slice (l.getD (n + 1) x0).ra (l.getD (n + 1) x0).rs.length (l.getD (n + 1) x0).rc, .slice (l.getD (n + 1) x0).ga (l.getD (n + 1) x0).gs.length (l.getD (n + 1) x0).gc, .slice (l.getD (n + 1) x0).sa (l.getD (n + 1) x0).ss.length (l.getD (n + 1) x0).sc]] w' fun e w'' => e = .returned (.tuple #[.bool (clashX (gX l n) (gX l (n + 1))), .int .i64 0]) ∧ Below w'.heap.size w' w'') := fun w' hb => by
    obtain ⟨_, _, _, _, _, _, _, hx⟩ := hl n (by omega)
    obtain ⟨_, _, _, _, _, _, _, hy⟩ := hl (n + 1) hn
    exact clash_ok _ _ w' (hx.below hb) (hy.below hb) (chkL_at0 hC n (by omega)) (chkL_at0 hC (n + 1) hn)
  have hl8 := chkL_small hC
  clear hl hE hm hC h1 h0
  go_enter Try.func45, Try.ntmps45
  go_wp2_with fail
  go_region_held3 (fun w' => Below w.heap.size w w' ∧ w'.cell? ⟨p, 0, none⟩ = some (.slice la l.length lc) ∧ w'.cell? ⟨q, 0, none⟩ = some (.int .i64 n)) ((refine KS.out _ ?_; go_split_ands; repeat (first | assumption | exact Below.refl _ _ | refine grow_drew ?_ | refine grow_alloc ?_ _ | refine grow_trans ?_ (by assumption))))
    (first
      | (go_at_call 46; refine (C46.out _).mono ?_; rintro e wb ⟨rfl, hbb⟩)
      | (go_at_call 42; refine (orderCheck_any la lc l _ ?_).mono ?_; (refine HL.out.below ?_; go_split_ands; repeat (first | assumption | exact Below.refl _ _ | refine grow_drew ?_ | refine grow_alloc ?_ _ | refine grow_trans ?_ (by assumption))); rintro e wa ⟨rfl, hba⟩)
      | (go_at_call 41; refine (leave_zero [chkL l, nextE n l.length] _ 2 _ (by simp) HE.out ?_).mono ?_; (exact errs2 _ _ _ _ (by simp)); rintro e w' ⟨rfl, rfl⟩))
  all_goals (
    go_split_ands
    have BB : Below w.heap.size w (wb.alloc (.cells #[.int .i64 (chkL l), .int .i64 (nextE n l.length)] 28)) := by assumption
    have p1 : (wb.alloc (.cells #[.int .i64 (chkL l), .int .i64 (nextE n l.length)] 28)).cell? ⟨p, 0, none⟩ = some (.slice la l.length lc) := by assumption
    have q1 : (wb.alloc (.cells #[.int .i64 (chkL l), .int .i64 (nextE n l.length)] 28)).cell? ⟨q, 0, none⟩ = some (.int .i64 n) := by assumption
    generalize wb.alloc (.cells #[.int .i64 (chkL l), .int .i64 (nextE n l.length)] 28) = W at *
    obtain ⟨b, off, rfl, _, e0, e1, e2, _⟩ := HL.out n (by omega)
    obtain ⟨b', off', hbe, _, f0, f1, f2, _⟩ := HL.out (n + 1) hn
    injection hbe with hbe
    injection hbe with r1 r2 _
    subst r1 r2
    have d0 := ext_cell BB e0
    have d1 := ext_cell BB e1
    have d2 := ext_cell BB e2
    have d3 := ext_cell BB f0
    have d4 := ext_cell BB f1
    have d5 := ext_cell BB f2
    have HB : Hid (Below w.heap.size w W) := BB
    have C11' : Hid (∀ w', Below W.heap.size W w' → Calls Try.prog 11 #[.agg #[.slice (l.getD n x0).ra (l.getD n x0).rs.length (l.getD n x0).rc, .slice (l.getD n x0).ga (l.getD n x0).gs.length (l.getD n x0).gc, .slice (l.getD n x0).sa (l.getD n x0).ss.length (l.getD n x0).sc], .agg #[.slice (l.getD (n + 1) x0).ra (l.getD (n + 1) x0).rs.length (l.getD (n + 1) x0).rc, .slice (l.getD (n + 1) x0).ga (l.getD (n + 1) x0).gs.length (l.getD (n + 1) x0).gc, .slice (l.getD (n + 1) x0).sa (l.getD (n + 1) x0).ss.length (l.getD (n + 1) x0).sc]] w' fun e w'' => e = .returned (.tuple #[.bool (clashX (gX l n) (gX l (n + 1))), .int .i64 0]) ∧ Below w'.heap.size w' w'') := fun w' hb => C11.out w' (grow_trans BB hb)
    have C47' : Hid (∀ w', Below W.heap.size W w' → Calls Try.prog 47 #[.slice (some ⟨b, off, none⟩) l.length lc] w' fun e w'' => ∃ v cl, e = .returned v ∧ TxRow w'.heap.size w'' v cl ∧ cl.map TxA.core = l.map TxA.core ∧ Below w'.heap.size w' w'') := fun w' hb => C47.out w' (grow_trans BB hb)
    clear e0 e1 e2 f0 f1 f2 KS C11 C46 C47 HL hba hbb p0 q0 BB HE
    generalize clashX (gX l n) (gX l (n + 1)) = c at *
    generalize l.getD n x0 = x at *
    generalize l.getD (n + 1) x0 = y at *
    obtain ⟨ra, ga, sa, rc, gc, sc, rs, gs, ss⟩ := x
    obtain ⟨ra', ga', sa', rc', gc', sc', rs', gs', ss'⟩ := y
    simp only at d0 d1 d2 d3 d4 d5 C11'
    have KS : Hid (∀ w', Below W.heap.size W w' → Below W.heap.size W w' ∧ w'.cell? ⟨p, 0, none⟩ = some (.slice (some ⟨b, off, none⟩) l.length lc) ∧ w'.cell? ⟨q, 0, none⟩ = some (.int .i64 n) ∧ w'.cell? ⟨b, off + n * 3, none⟩ = some (.slice ra rs.length rc) ∧ w'.cell? ⟨b, off + n * 3 + 1, none⟩ = some (.slice ga gs.length gc) ∧ w'.cell? ⟨b, off + n * 3 + 2, none⟩ = some (.slice sa ss.length sc) ∧ w'.cell? ⟨b, off + (n + 1) * 3, none⟩ = some (.slice ra' rs'.length rc') ∧ w'.cell? ⟨b, off + (n + 1) * 3 + 1, none⟩ = some (.slice ga' gs'.length gc') ∧ w'.cell? ⟨b, off + (n + 1) * 3 + 2, none⟩ = some (.slice sa' ss'.length sc')) := fun w' h => ⟨h, ext_cell h p1, ext_cell h q1, ext_cell h d0, ext_cell h d1, ext_cell h d2, ext_cell h d3, ext_cell h d4, ext_cell h d5⟩
    have i1 : (0 : Int) ≤ (n : Int) := by omega
    have i2 : (n : Int) < (l.length : Int) := by omega
    have i3 : (0 : Int) ≤ (n : Int) + 1 := by omega
    have i4 : (n : Int) + 1 < (l.length : Int) := by omega
    have i5 : ((n : Int) + 1).toNat = n + 1 := by omega
    have hw0 : IntKind.i64.wrap ((n : Int) + 1) = (n : Int) + 1 := by rw [IntWalk.i64_in] <;> omega
    go_upto_region 2 with fail
    go_region_held3 (fun w' => Below W.heap.size W w' ∧ w'.cell? ⟨p, 0, none⟩ = some (.slice (some ⟨b, off, none⟩) l.length lc) ∧ w'.cell? ⟨q, 0, none⟩ = some (.int .i64 n) ∧ w'.cell? ⟨b, off + n * 3, none⟩ = some (.slice ra rs.length rc) ∧ w'.cell? ⟨b, off + n * 3 + 1, none⟩ = some (.slice ga gs.length gc) ∧ w'.cell? ⟨b, off + n * 3 + 2, none⟩ = some (.slice sa ss.length sc) ∧ w'.cell? ⟨b, off + (n + 1) * 3, none⟩ = some (.slice ra' rs'.length rc') ∧ w'.cell? ⟨b, off + (n + 1) * 3 + 1, none⟩ = some (.slice ga' gs'.length gc') ∧ w'.cell? ⟨b, off + (n + 1) * 3 + 2, none⟩ = some (.slice sa' ss'.length sc')) ((refine KS.out _ ?_; go_split_ands; repeat (first | assumption | exact Below.refl _ _ | refine grow_drew ?_ | refine grow_alloc ?_ _ | refine grow_trans ?_ (by assumption))))
      (first
        | (go_at_call 11; refine (C11'.out _ ?_).mono ?_; (go_split_ands; assumption); rintro e wc ⟨rfl, hbc⟩)
        | (go_at_call 43; refine (gotBool0 c _).mono ?_; rintro e wd ⟨rfl, hbd⟩))
    all_goals (
      go_split_ands
      have BD : Below W.heap.size W wd := by assumption
      have p2 := ext_cell BD p1
      have q2 := ext_cell BD q1
      have HBD : Hid (Below w.heap.size w wd) := grow_trans HB.out BD
      have C47'' : Hid (Calls Try.prog 47 #[.slice (some ⟨b, off, none⟩) l.length lc] wd fun e w'' => ∃ v cl, e = .returned v ∧ TxRow wd.heap.size w'' v cl ∧ cl.map TxA.core = l.map TxA.core ∧ Below wd.heap.size wd w'') := C47'.out wd BD
      clear KS C11' C47' hbc hbd HB p1 q1 d0 d1 d2 d3 d4 d5 BD
      cases c with
      | true =>
        have H1' := H1.out rfl
        clear H1 H0 C47''
        go_wp2_with fail
        refine (leave_nz [1] _ 1 _ (by simp) (by decide) (errs1 _ _ _ rfl)).mono ?_
        rintro e w' ⟨rfl, rfl⟩
        exact ⟨rfl, H1' _ (grow_alloc HBD.out _)⟩
      | false =>
        have H0' : Hid (∀ v cl w', TxRow w.heap.size w' v cl → cl.map TxA.core = (swapX l n).map TxA.core → Below w.heap.size w w' → Post (.returned v) w') := H0.out rfl
        clear H1 H0
        go_wp2_with fail
        refine C47''.out.mono ?_
        clear C47''
        rintro e wz ⟨v, cl, rfl, hrow, hcore, hbz⟩
        have q3 := ext_cell hbz q2
        have hcl : cl.length = l.length := by
          have h := congrArg List.length hcore
          simpa using h
        obtain ⟨g, cap, rfl, hCg, hat⟩ := hrow.at (by omega)
        obtain ⟨a0, a1, a2, a3, a4, a5⟩ := hat n (by omega)
        obtain ⟨c0, c1, c2, c3, c4, c5⟩ := hat (n + 1) (by omega)
        rw [hcl]
        have HROW : Hid (TxRow wd.heap.size wz (.slice (some ⟨g, 0, none⟩) cl.length cap) cl) := hrow
        have HCORE : Hid (cl.map TxA.core = l.map TxA.core) := hcore
        have HBZ : Hid (Below w.heap.size w wz) := grow_trans HBD.out hbz
        have hqg : q ≠ g := by
          have h1 := World.block_lt_of_cell? wd _ q2
          simp only at h1
          omega
        have RR : Hid (TxRow wd.heap.size (put3 (put3 wz g n (cl.getD (n + 1) x0)) g (n + 1) (cl.getD n x0)) (.slice (some ⟨g, 0, none⟩) l.length cap) (swapX cl n)) := by
          have h := hrow.swap rfl n (by omega)
          rw [hcl] at h
          exact h
        have RC : Hid ((swapX cl n).map TxA.core = (swapX l n).map TxA.core) := swapX_core hcore n
        have hgw : w.heap.size ≤ g := Nat.le_trans HBD.out.size hCg
        have RB : Hid (Below w.heap.size w (put3 (put3 wz g n (cl.getD (n + 1) x0)) g (n + 1) (cl.getD n x0))) := put3_below (put3_below HBZ.out g n _ hgw) g (n + 1) _ hgw
        have HWD : Hid (w.heap.size ≤ wd.heap.size) := HBD.out.size
        clear hrow hcore hat q2 p2 hbz HROW HCORE HBZ hcl hCg hgw
        generalize swapX cl n = sl at *
        generalize cl.getD n x0 = x1 at *
        generalize cl.getD (n + 1) x0 = y1 at *
        obtain ⟨xa, xb, xc, xd, xe, xf, xg, xh, xi⟩ := x1
        obtain ⟨ya, yb, yc, yd, ye, yf, yg, yh, yi⟩ := y1
        simp only [put3] at a0 a1 a2 c0 c1 c2 RR RB
        go_upto_region 5 with fail
        go_region
        all_goals (
          have RR' := RR.out.below (grow_drew (Below.refl _ _))
          have RB' := grow_drew RB.out
          clear RR RB a0 a1 a2 a3 a4 a5 c0 c1 c2 c3 c4 c5 q3
          go_wp2
          exact H0'.out _ _ _ (RR'.low HWD.out) RC.out RB'))
    )

/-- What Swap answers. -/
def swE (l : List TxA) (n : Int) : Int := if firstNZ [chkL l, nextE n l.length] = 0 then (if clashX (gX l n.toNat) (gX l (n.toNat + 1)) = true then 1 else 0) else firstNZ [chkL l, nextE n l.length]
def swL (l : List TxA) (n : Int) : List TxA := if swE l n = 0 then swapX l n.toNat else []

set_option maxRecDepth 100000 in
set_option maxHeartbeats 1000000 in
theorem swap_by (n x : Int) (Q : Value → World → Prop) (w : World)
    (h : Calls Try.prog 44 #[.func (.func 45) #[] #[.pointer (some ⟨w.heap.size, 0, none⟩), .pointer (some ⟨w.heap.size + 1, 0, none⟩)]] ((w.alloc (.cells #[.slice la l.length lc] 27)).alloc (.cells #[.int .i64 n] 3)) fun e w' => ∃ v, e = .returned (.tuple #[v, .int .i64 x]) ∧ Q v w' ∧ Below w.heap.size w w') :
    Calls Try.prog 13 #[.slice la l.length lc, .int .i64 n] w fun e w' => ∃ v, e = .returned (.tuple #[v, .int .i64 x]) ∧ Q v w' ∧ Below w.heap.size w w' := by
  have hmf : ∀ (fn : Fn) (first cap : Array Value) (w : World), (Instr.makeFunc fn first cap).run Try.prog w = .ok (.func fn first cap) w := fun _ _ _ _ => rfl
  have H : Hid (Calls Try.prog 44 #[.func (.func 45) #[] #[.pointer (some ⟨w.heap.size, 0, none⟩), .pointer (some ⟨w.heap.size + 1, 0, none⟩)]] ((w.alloc (.cells #[.slice la l.length lc] 27)).alloc (.cells #[.int .i64 n] 3)) fun e w' => ∃ v, e = .returned (.tuple #[v, .int .i64 x]) ∧ Q v w' ∧ Below w.heap.size w w') := h
  clear h
  go_enter Try.func13, Try.ntmps13
  go_wp2_with fail
  refine H.out.mono ?_
  clear H
  rintro e w1 ⟨v, rfl, hq, hb⟩
  have hB : Hid (Below w.heap.size w w1) := hb
  have hQ : Hid (Q v w1) := hq
  clear hb hq
  go_wp2
  go_ret2
  exact ⟨v, rfl, hQ.out, hB.out⟩

set_option maxRecDepth 100000 in
theorem swap_any (n : Int) (w : World) (hl : IsTxs w la l) (hm : l.length ≤ maxLen) :
    Calls Try.prog 13 #[.slice la l.length lc, .int .i64 n] w fun e w' => ∃ v, e = .returned (.tuple #[v, .int .i64 (swE l n)]) ∧ (∃ cl, TxRow w.heap.size w' v cl ∧ cl.map TxA.core = (swL l n).map TxA.core) ∧ Below w.heap.size w w' := by
  have g1 : Below w.heap.size w ((w.alloc (.cells #[.slice la l.length lc] 27)).alloc (.cells #[.int .i64 n] 3)) := grow_alloc (grow_alloc (Below.refl _ _) _) _
  refine swap_by la lc l n _ (fun v w' => ∃ cl, TxRow w.heap.size w' v cl ∧ cl.map TxA.core = (swL l n).map TxA.core) w ?_
  have p : (((w.alloc (.cells #[.slice la l.length lc] 27)).alloc (.cells #[.int .i64 n] 3)).alloc (.cells #[.int .i64 0] 28)).cell? ⟨w.heap.size, 0, none⟩ = some (.slice la l.length lc) := by
    rw [World.cell?_alloc_lt _ _ _ (by simp; omega), World.cell?_alloc_lt _ _ _ (by simp)]; simp
  have q : (((w.alloc (.cells #[.slice la l.length lc] 27)).alloc (.cells #[.int .i64 n] 3)).alloc (.cells #[.int .i64 0] 28)).cell? ⟨w.heap.size + 1, 0, none⟩ = some (.int .i64 n) := by
    rw [World.cell?_alloc_lt _ _ _ (by simp)]; simp
  generalize (w.alloc (.cells #[.slice la l.length lc] 27)).alloc (.cells #[.int .i64 n] 3) = W at *
  have hl' : IsTxs (W.alloc (.cells #[.int .i64 0] 28)) la l := hl.below (grow_alloc g1 _)
  by_cases he : firstNZ [chkL l, nextE n l.length] = 0
  · have hz := firstNZ_zero _ he
    have hC : chkL l = 0 := by simpa using hz 0
    have hN := nextE_zero (n := n) (k := l.length) (by simpa using hz 1)
    obtain ⟨k, rfl⟩ : ∃ k : Nat, n = k := ⟨n.toNat, by omega⟩
    have e0 : swE l k = if clashX (gX l k) (gX l (k + 1)) = true then 1 else 0 := if_pos he
    cases hc : clashX (gX l k) (gX l (k + 1)) with
    | true =>
      have e1 : swE l k = 1 := by rw [e0, hc]; rfl
      have e2 : swL l k = [] := if_neg (by rw [e1]; decide)
      rw [e1, e2]
      refine (caughtTx_pan 45 _ (fun _ => rfl) 1 W (swap1_to la lc l k _ _ _ _ p q hl' hm he (by omega) hC ?_ ?_)).mono ?_
      · intro _ w' hb
        exact ⟨rfl, hb.mono (by simp)⟩
      · intro h
        rw [hc] at h
        cases h
      · rintro e w' ⟨rfl, hb⟩
        exact ⟨.slice none 0 0, rfl, ⟨[], txRow_nil _ _, rfl⟩, grow_trans g1 hb⟩
    | false =>
      have e1 : swE l k = 0 := by rw [e0, hc]; rfl
      have e2 : swL l k = swapX l k := if_pos e1
      rw [e1, e2]
      refine (caughtTx_ret 45 _ (fun _ => rfl) (fun v w' => ∃ cl, TxRow (W.heap.size + 1) w' v cl ∧ cl.map TxA.core = (swapX l k).map TxA.core) W ?_ (swap1_to la lc l k _ _ _ _ p q hl' hm he (by omega) hC ?_ ?_)).mono ?_
      · rintro v w' ⟨cl, hr, hcr⟩
        exact ⟨cl, hr.kept (grown_one w' W.heap.size 0 _) (fun j e => by injection e with e; omega), hcr⟩
      · intro h
        rw [hc] at h
        cases h
      · intro _ v cl w' hr hcr hb
        exact ⟨v, rfl, ⟨cl, by simpa using hr, hcr⟩, hb.mono (by simp)⟩
      · rintro e w' ⟨v, rfl, ⟨cl, hr, hcr⟩, hb⟩
        exact ⟨v, rfl, ⟨cl, hr.low (by have := g1.size; omega), hcr⟩, grow_trans g1 hb⟩
  · have e1 : swE l n = firstNZ [chkL l, nextE n l.length] := if_neg he
    have e2 : swL l n = [] := if_neg (by rw [e1]; exact he)
    rw [e1, e2]
    refine (caughtTx_pan 45 _ (fun _ => rfl) (firstNZ [chkL l, nextE n l.length]) W ((swap1_pan la lc l n _ _ _ p q hl' hm he).mono ?_)).mono ?_
    · rintro e w' ⟨rfl, hb⟩
      exact ⟨rfl, hb.mono (by simp)⟩
    · rintro e w' ⟨rfl, hb⟩
      exact ⟨.slice none 0 0, rfl, ⟨[], txRow_nil _ _, rfl⟩, grow_trans g1 hb⟩
end Go.Proofs.Ytikolifbljnokaa
