/-
  graph.Swap: one and the next change places, in a copy.
  Conditions: the transactions can be read.
-/
import Derived.Test.YtikolifbljnokaaGraphD
import Derived.Test.YtikolifbljnokaaSeqZ
import Derived.Maps.AppendAt
import Derived.WalkKit
import Derived.WalkSpells
import Derived.WalkLawsBesides
import Derived.Defers
import Derived.Recover
import Derived.ProofKit
import Derived.Deep.RegionHeld
import Derived.Deep.RegionHeld3
import Derived.BigQuiet
import Derived.Deep.RegionLaw
import Derived.Deep.DeepCutAuto
import Derived.IntWalk
import Derived.Test.YtikolifbljnokaaPlaceC
import Derived.Test.YtikolifbljnokaaStoreZ
namespace Go.Proofs.Ytikolifbljnokaa
open Go.RowKit

/-- Is there such a one, and a next? -/
def nextE (n : Int) (k : Nat) : Int := if n < 0 ∨ (k : Int) - 1 ≤ n then 5 else 0

set_option maxRecDepth 100000 in
theorem nextError_any (la : Option Addr) (lc k : Nat) (n : Int) (hk : k ≤ maxLen) (w : World) :
    Calls Try.prog 46 #[.slice la k lc, .int .i64 n] w fun e w' => e = .returned (.int .i64 (nextE n k)) ∧ Below w.heap.size w w' := by
  have hw0 : IntKind.i64.wrap ((k : Int) - 1) = (k : Int) - 1 := by
    rw [IntWalk.i64_in] <;> (unfold maxLen at hk; omega)
  by_cases h1 : n < 0
  · have H : nextE n k = 5 := if_pos (.inl h1)
    rw [H]
    clear H
    go_enter Try.func46, Try.ntmps46
    go_wp2
    go_ret
    exact ⟨rfl, Below.refl _ _⟩
  · by_cases h2 : (k : Int) - 1 ≤ n
    · have H : nextE n k = 5 := if_pos (.inr h2)
      rw [H]
      clear H
      go_enter Try.func46, Try.ntmps46
      go_wp2
      go_ret
      exact ⟨rfl, Below.refl _ _⟩
    · have H : nextE n k = 0 := if_neg (by omega)
      rw [H]
      clear H
      go_enter Try.func46, Try.ntmps46
      go_wp2
      go_ret
      exact ⟨rfl, Below.refl _ _⟩

theorem nextE_zero {n : Int} {k : Nat} (h : nextE n k = 0) : 0 ≤ n ∧ n + 1 < k := by
  unfold nextE at h
  by_cases c : n < 0 ∨ (k : Int) - 1 ≤ n
  · rw [if_pos c] at h; omega
  · omega

/-- One and the next change places. -/
def swapX (l : List TxA) (n : Nat) : List TxA := (l.set n (l.getD (n + 1) x0)).set (n + 1) (l.getD n x0)
def set3 (L : List Value) (i : Nat) (x : TxA) : List Value := ((L.set (i * 3) (.slice x.ra x.rs.length x.rc)).set (i * 3 + 1) (.slice x.ga x.gs.length x.gc)).set (i * 3 + 2) (.slice x.sa x.ss.length x.sc)
theorem flatX_set : ∀ (l : List TxA) (i : Nat) (x : TxA), i < l.length → flatX (l.set i x) = set3 (flatX l) i x
  | [], i, x, h => by simp at h
  | y :: t, 0, x, _ => by simp [flatX, xcells, set3]
  | y :: t, i + 1, x, h => by
    have ih := flatX_set t i x (by simpa using h)
    have e1 : (i + 1) * 3 = i * 3 + 1 + 1 + 1 := by omega
    rw [List.set_cons_succ]
    unfold set3 at *
    rw [e1]
    simp only [flatX, xcells, List.cons_append, List.nil_append, List.set_cons_succ]
    rw [ih]

theorem TxRow.at {C : Nat} {w : World} {v : Value} {l : List TxA} (h : TxRow C w v l) (h0 : 0 < l.length) : ∃ g cap, v = .slice (some ⟨g, 0, none⟩) l.length cap ∧ C ≤ g ∧ ∀ i, i < l.length → w.cell? ⟨g, i * 3, none⟩ = some (.slice (l.getD i x0).ra (l.getD i x0).rs.length (l.getD i x0).rc) ∧ w.cell? ⟨g, i * 3 + 1, none⟩ = some (.slice (l.getD i x0).ga (l.getD i x0).gs.length (l.getD i x0).gc) ∧ w.cell? ⟨g, i * 3 + 2, none⟩ = some (.slice (l.getD i x0).sa (l.getD i x0).ss.length (l.getD i x0).sc) ∧ w.frozen? ⟨g, i * 3, none⟩ = false ∧ w.frozen? ⟨g, i * 3 + 1, none⟩ = false ∧ w.frozen? ⟨g, i * 3 + 2, none⟩ = false := by
  rcases h.1.2 with ⟨rfl, h1⟩ | ⟨g, cap, cur, rfl, hb, hg, hnc, hcm, hcs, htake⟩
  · omega
  · refine ⟨g, cap, rfl, hb, fun i hi => ?_⟩
    have hc : ∀ j, j < 3 → w.cell? ⟨g, i * 3 + j, none⟩ = (xcells (l.getD i x0))[j]? := fun j hj => by
      rw [h.1.cellAt (i * 3 + j) (by omega)]
      exact flatX_at l i j hi hj
    exact ⟨hc 0 (by omega), hc 1 (by omega), hc 2 (by omega), h.1.frozenAt _, h.1.frozenAt _, h.1.frozenAt _⟩

/-- A transaction laid into a row of one's own. -/
def put3 (w : World) (g i : Nat) (x : TxA) : World := ((w.setCell ⟨g, i * 3, none⟩ (.slice x.ra x.rs.length x.rc)).setCell ⟨g, i * 3 + 1, none⟩ (.slice x.ga x.gs.length x.gc)).setCell ⟨g, i * 3 + 2, none⟩ (.slice x.sa x.ss.length x.sc)
theorem put3_grown (w : World) (g i : Nat) (x : TxA) : w.grownBy (put3 w g i x) (some g) := ((grown_one w g _ _).trans (grown_one _ g _ _)).trans (grown_one _ g _ _)
theorem TxRow.put {C : Nat} {w : World} {g cap k : Nat} {l : List TxA} (h : TxRow C w (.slice (some ⟨g, 0, none⟩) k cap) l) (hk : k = l.length) (i : Nat) (hi : i < l.length) (x : TxA) (hx : IsX w x ∧ XIn C w.heap.size (.slice (some ⟨g, 0, none⟩) k cap) x) : TxRow C (put3 w g i x) (.slice (some ⟨g, 0, none⟩) k cap) (l.set i x) := by
  have hs : (put3 w g i x).heap.size = w.heap.size := by simp [put3]
  subst hk
  refine ⟨?_, fun y hy => ?_⟩
  · rw [List.length_set, flatX_set l i x hi]
    exact (((h.1.stored (i * 3) _).1.stored (i * 3 + 1) _).1.stored (i * 3 + 2) _).1
  · have key : IsX w y ∧ XIn C w.heap.size (.slice (some ⟨g, 0, none⟩) l.length cap) y := by
      rcases List.mem_or_eq_of_mem_set hy with hy | rfl
      · exact h.2 y hy
      · exact hx
    refine ⟨key.1.keptBy (put3_grown w g i x) (fun ad e q => key.2.nr ad e ?_) (fun ad e q => key.2.ng ad e ?_) (fun ad e q => key.2.ns ad e ?_), by rw [hs]; exact key.2⟩
    · exact q
    · exact q
    · exact q
theorem TxRow.swap {C : Nat} {w : World} {g cap k : Nat} {l : List TxA} (h : TxRow C w (.slice (some ⟨g, 0, none⟩) k cap) l) (hk : k = l.length) (n : Nat) (hn : n + 1 < l.length) : TxRow C (put3 (put3 w g n (l.getD (n + 1) x0)) g (n + 1) (l.getD n x0)) (.slice (some ⟨g, 0, none⟩) k cap) (swapX l n) := by
  have m1 : l.getD (n + 1) x0 ∈ l := by simp [List.getD, hn]
  have m0 : l.getD n x0 ∈ l := by
    have : n < l.length := by omega
    simp [List.getD, this]
  refine (h.put hk n (by omega) _ (h.2 _ m1)).put (by rw [List.length_set]; exact hk) (n + 1) (by rw [List.length_set]; exact hn) _ ?_
  have key := h.2 _ m0
  refine ⟨key.1.keptBy (put3_grown w g n _) (fun ad e q => key.2.nr ad e ?_) (fun ad e q => key.2.ng ad e ?_) (fun ad e q => key.2.ns ad e ?_), ?_⟩
  · exact q
  · exact q
  · exact q
  · rw [show (put3 w g n (l.getD (n + 1) x0)).heap.size = w.heap.size by simp [put3]]
    exact key.2
theorem swapX_core {l m : List TxA} (h : l.map TxA.core = m.map TxA.core) (n : Nat) : (swapX l n).map TxA.core = (swapX m n).map TxA.core := by
  unfold swapX
  rw [List.map_set, List.map_set, List.map_set, List.map_set, h, core_at h, core_at h]
theorem put3_below {w w' : World} (h : Below w.heap.size w w') (g i : Nat) (x : TxA) (hg : w.heap.size ≤ g) : Below w.heap.size w (put3 w' g i x) := grow_set (grow_set (grow_set h hg _) hg _) hg _

variable (la : Option Addr) (lc : Nat) (l : List TxA)

set_option maxRecDepth 100000 in
set_option maxHeartbeats 1000000 in
theorem swap1_pan (n : Int) (p q : Nat) (w : World) (p0 : w.cell? ⟨p, 0, none⟩ = some (.slice la l.length lc)) (q0 : w.cell? ⟨q, 0, none⟩ = some (.int .i64 n)) (hl : IsTxs w la l) (hm : l.length ≤ maxLen) (hE : ¬ firstNZ [chkL l, nextE n l.length] = 0) :
    Calls Try.prog 45 #[.pointer (some ⟨p, 0, none⟩), .pointer (some ⟨q, 0, none⟩)] w fun e w' => e = .panicked [{ v := .iface 28 (.int .i64 (firstNZ [chkL l, nextE n l.length])), recovered := false }] ∧ Below w.heap.size w w' := by
  have HL : Hid (IsTxs w la l) := hl
  have HE : Hid (¬ firstNZ [chkL l, nextE n l.length] = 0) := hE
  have KS : Hid (∀ w', Below w.heap.size w w' → Below w.heap.size w w' ∧ w'.cell? ⟨p, 0, none⟩ = some (.slice la l.length lc) ∧ w'.cell? ⟨q, 0, none⟩ = some (.int .i64 n)) := fun w' h => ⟨h, ext_cell h p0, ext_cell h q0⟩
  have C46 : Hid (∀ w', Calls Try.prog 46 #[.slice la l.length lc, .int .i64 n] w' fun e w'' => e = .returned (.int .i64 (nextE n l.length)) ∧ Below w'.heap.size w' w'') := fun w' => nextError_any la lc l.length n hm w'
  clear hl hE hm
  go_enter Try.func45, Try.ntmps45
  go_wp2_with fail
  go_region_held (fun w' => Below w.heap.size w w' ∧ w'.cell? ⟨p, 0, none⟩ = some (.slice la l.length lc) ∧ w'.cell? ⟨q, 0, none⟩ = some (.int .i64 n)) ((refine KS.out _ ?_; go_split_ands; repeat (first | assumption | exact Below.refl _ _ | refine grow_drew ?_ | refine grow_alloc ?_ _ | refine grow_trans ?_ (by assumption))))
    (first
      | (go_at_call 46; refine (C46.out _).mono ?_; rintro e wb ⟨rfl, hbb⟩)
      | (go_at_call 42; refine (orderCheck_any la lc l _ ?_).mono ?_; (refine HL.out.below ?_; go_split_ands; repeat (first | assumption | exact Below.refl _ _ | refine grow_drew ?_ | refine grow_alloc ?_ _ | refine grow_trans ?_ (by assumption))); rintro e wa ⟨rfl, hba⟩)
      | (go_at_call 41; refine (panic_or (leave_nz [chkL l, nextE n l.length] _ 2 _ (by simp) HE.out ?_) (.tuple #[])).mono ?_; (exact errs2 _ _ _ _ (by simp)); rintro e w' (⟨rfl, rfl⟩ | ⟨hF, rfl, rfl⟩); (refine ⟨rfl, rfl, ?_⟩; go_split_ands; repeat (first | assumption | exact Below.refl _ _ | refine grow_drew ?_ | refine grow_alloc ?_ _ | refine grow_trans ?_ (by assumption)))))
  exact (‹Hid False› : Hid False).out.elim

set_option maxRecDepth 100000 in
set_option maxHeartbeats 4000000 in
theorem swap1_to (n : Nat) (p q : Nat) (Post : Ending → World → Prop) (w : World) (p0 : w.cell? ⟨p, 0, none⟩ = some (.slice la l.length lc)) (q0 : w.cell? ⟨q, 0, none⟩ = some (.int .i64 n)) (hl : IsTxs w la l) (hm : l.length ≤ maxLen) (hE : firstNZ [chkL l, nextE n l.length] = 0) (hn : n + 1 < l.length) (hC : chkL l = 0)
    (h1 : clashX (gX l n) (gX l (n + 1)) = true → ∀ w', Below w.heap.size w w' → Post (.panicked [{ v := .iface 28 (.int .i64 1), recovered := false }]) w')
    (h0 : clashX (gX l n) (gX l (n + 1)) = false → ∀ v cl w', TxRow w.heap.size w' v cl → cl.map TxA.core = (swapX l n).map TxA.core → Below w.heap.size w w' → Post (.returned v) w') :
    Calls Try.prog 45 #[.pointer (some ⟨p, 0, none⟩), .pointer (some ⟨q, 0, none⟩)] w Post := by
  have HL : Hid (IsTxs w la l) := hl
  have HE : Hid (firstNZ [chkL l, nextE n l.length] = 0) := hE
  have H1 : Hid (clashX (gX l n) (gX l (n + 1)) = true → ∀ w', Below w.heap.size w w' → Post (.panicked [{ v := .iface 28 (.int .i64 1), recovered := false }]) w') := h1
  have H0 : Hid (clashX (gX l n) (gX l (n + 1)) = false → ∀ v cl w', TxRow w.heap.size w' v cl → cl.map TxA.core = (swapX l n).map TxA.core → Below w.heap.size w w' → Post (.returned v) w') := h0
  have KS : Hid (∀ w', Below w.heap.size w w' → Below w.heap.size w w' ∧ w'.cell? ⟨p, 0, none⟩ = some (.slice la l.length lc) ∧ w'.cell? ⟨q, 0, none⟩ = some (.int .i64 n)) := fun w' h => ⟨h, ext_cell h p0, ext_cell h q0⟩
  have C46 : Hid (∀ w', Calls Try.prog 46 #[.slice la l.length lc, .int .i64 n] w' fun e w'' => e = .returned (.int .i64 (nextE n l.length)) ∧ Below w'.heap.size w' w'') := fun w' => nextError_any la lc l.length n hm w'
  have C47 : Hid (∀ w', Below w.heap.size w w' → Calls Try.prog 47 #[.slice la l.length lc] w' fun e w'' => ∃ v cl, e = .returned v ∧ TxRow w'.heap.size w'' v cl ∧ cl.map TxA.core = l.map TxA.core ∧ Below w'.heap.size w' w'') := fun w' hb => copy_any la lc l w' (hl.below hb) hC
  have C11 : Hid (∀ w', Below w.heap.size w w' → Calls Try.prog 11 #[.agg #[.slice (l.getD n x0).ra (l.getD n x0).rs.length (l.getD n x0).rc, .slice (l.getD n x0).ga (l.getD n x0).gs.length (l.getD n x0).gc, .slice (l.getD n x0).sa (l.getD n x0).ss.length (l.getD n x0).sc], .agg #[.slice (l.getD (n + 1) x0).ra (l.getD (n + 1) x0).rs.length (l.getD (n + 1) x0).rc, .slice (l.getD (n + 1) x0).ga (l.getD (n + 1) x0).gs.length (l.getD (n + 1) x0).gc, .slice (l.getD (n + 1) x0).sa (l.getD (n + 1) x0).ss.length (l.getD (n + 1) x0).sc]] w' fun e w'' => e = .returned (.tuple #[.bool (clashX (gX l n) (gX l (n + 1))), .int .i64 0]) ∧ Below w'.heap.size w' w'') := fun w' hb => by
    obtain ⟨_, _, _, _, _, _, _, hx⟩ := hl n (by omega)
    obtain ⟨_, _, _, _, _, _, _, hy⟩ := hl (n + 1) hn
    exact clash_ok _ _ w' (hx.below hb) (hy.below hb) (chkL_at0 hC n (by omega)) (chkL_at0 hC (n + 1) hn)
  have hl8 := chkL_small hC
  clear hl hE hm hC h1 h0
  go_enter Try.func45, Try.ntmps45
  go_wp2_with fail
  go_region_held3 (fun w' => Below w.heap.size w w' ∧ w'.cell? ⟨p, 0, none⟩ = some (.slice la l.length lc) ∧ w'.cell? ⟨q, 0, none⟩ = some (.int .i64 n)) ((refine KS.out _ ?_; go_split_ands; repeat (first | assumption | exact Below.refl _ _ | refine grow_drew ?_ | refine grow_alloc ?_ _ | refine grow_trans ?_ (by assumption))))
    (first
      | (go_at_call 46; refine (C46.out _).mono ?_; rintro e wb ⟨rfl, hbb⟩)
      | (go_at_call 42; refine (orderCheck_any la lc l _ ?_).mono ?_; (refine HL.out.below ?_; go_split_ands; repeat (first | assumption | exact Below.refl _ _ | refine grow_drew ?_ | refine grow_alloc ?_ _ | refine grow_trans ?_ (by assumption))); rintro e wa ⟨rfl, hba⟩)
      | (go_at_call 41; refine (leave_zero [chkL l, nextE n l.length] _ 2 _ (by simp) HE.out ?_).mono ?_; (exact errs2 _ _ _ _ (by simp)); rintro e w' ⟨rfl, rfl⟩))
  all_goals (
    go_split_ands
    have BB : Below w.heap.size w (wb.alloc (.cells #[.int .i64 (chkL l), .int .i64 (nextE n l.length)] 28)) := by assumption
    have p1 : (wb.alloc (.cells #[.int .i64 (chkL l), .int .i64 (nextE n l.length)] 28)).cell? ⟨p, 0, none⟩ = some (.slice la l.length lc) := by assumption
    have q1 : (wb.alloc (.cells #[.int .i64 (chkL l), .int .i64 (nextE n l.length)] 28)).cell? ⟨q, 0, none⟩ = some (.int .i64 n) := by assumption
    generalize wb.alloc (.cells #[.int .i64 (chkL l), .int .i64 (nextE n l.length)] 28) = W at *
    obtain ⟨b, off, rfl, _, e0, e1, e2, _⟩ := HL.out n (by omega)
    obtain ⟨b', off', hbe, _, f0, f1, f2, _⟩ := HL.out (n + 1) hn
    injection hbe with hbe
    injection hbe with r1 r2 _
    subst r1 r2
    have d0 := ext_cell BB e0
    have d1 := ext_cell BB e1
    have d2 := ext_cell BB e2
    have d3 := ext_cell BB f0
    have d4 := ext_cell BB f1
    have d5 := ext_cell BB f2
    have HB : Hid (Below w.heap.size w W) := BB
    have C11' : Hid (∀ w', Below W.heap.size W w' → Calls Try.prog 11 #[.agg #[.slice (l.getD n x0).ra (l.getD n x0).rs.length (l.getD n x0).rc, .slice (l.getD n x0).ga (l.getD n x0).gs.length (l.getD n x0).gc, .slice (l.getD n x0).sa (l.getD n x0).ss.length (l.getD n x0).sc], .agg #[.slice (l.getD (n + 1) x0).ra (l.getD (n + 1) x0).rs.length (l.getD (n + 1) x0).rc, .slice (l.getD (n + 1) x0).ga (l.getD (n + 1) x0).gs.length (l.getD (n + 1) x0).gc, .slice (l.getD (n + 1) x0).sa (l.getD (n + 1) x0).ss.length (l.getD (n + 1) x0).sc]] w' fun e w'' => e = .returned (.tuple #[.bool (clashX (gX l n) (gX l (n + 1))), .int .i64 0]) ∧ Below w'.heap.size w' w'') := fun w' hb => C11.out w' (grow_trans BB hb)
    have C47' : Hid (∀ w', Below W.heap.size W w' → Calls Try.prog 47 #[.slice (some ⟨b, off, none⟩) l.length lc] w' fun e w'' => ∃ v cl, e = .returned v ∧ TxRow w'.heap.size w'' v cl ∧ cl.map TxA.core = l.map TxA.core ∧ Below w'.heap.size w' w'') := fun w' hb => C47.out w' (grow_trans BB hb)
    clear e0 e1 e2 f0 f1 f2 KS C11 C46 C47 HL hba hbb p0 q0 BB HE
    generalize clashX (gX l n) (gX l (n + 1)) = c at *
    generalize l.getD n x0 = x at *
    generalize l.getD (n + 1) x0 = y at *
    obtain ⟨ra, ga, sa, rc, gc, sc, rs, gs, ss⟩ := x
    obtain ⟨ra', ga', sa', rc', gc', sc', rs', gs', ss'⟩ := y
    simp only at d0 d1 d2 d3 d4 d5 C11'
    have KS : Hid (∀ w', Below W.heap.size W w' → Below W.heap.size W w' ∧ w'.cell? ⟨p, 0, none⟩ = some (.slice (some ⟨b, off, none⟩) l.length lc) ∧ w'.cell? ⟨q, 0, none⟩ = some (.int .i64 n) ∧ w'.cell? ⟨b, off + n * 3, none⟩ = some (.slice ra rs.length rc) ∧ w'.cell? ⟨b, off + n * 3 + 1, none⟩ = some (.slice ga gs.length gc) ∧ w'.cell? ⟨b, off + n * 3 + 2, none⟩ = some (.slice sa ss.length sc) ∧ w'.cell? ⟨b, off + (n + 1) * 3, none⟩ = some (.slice ra' rs'.length rc') ∧ w'.cell? ⟨b, off + (n + 1) * 3 + 1, none⟩ = some (.slice ga' gs'.length gc') ∧ w'.cell? ⟨b, off + (n + 1) * 3 + 2, none⟩ = some (.slice sa' ss'.length sc')) := fun w' h => ⟨h, ext_cell h p1, ext_cell h q1, ext_cell h d0, ext_cell h d1, ext_cell h d2, ext_cell h d3, ext_cell h d4, ext_cell h d5⟩
    have i1 : (0 : Int) ≤ (n : Int) := by omega
    have i2 : (n : Int) < (l.length : Int) := by omega
    have i3 : (0 : Int) ≤ (n : Int) + 1 := by omega
    have i4 : (n : Int) + 1 < (l.length : Int) := by omega
    have i5 : ((n : Int) + 1).toNat = n + 1 := by omega
    have hw0 : IntKind.i64.wrap ((n : Int) + 1) = (n : Int) + 1 := by rw [IntWalk.i64_in] <;> omega
    go_upto_region 2 with fail
    go_region_held3 (fun w' => Below W.heap.size W w' ∧ w'.cell? ⟨p, 0, none⟩ = some (.slice (some ⟨b, off, none⟩) l.length lc) ∧ w'.cell? ⟨q, 0, none⟩ = some (.int .i64 n) ∧ w'.cell? ⟨b, off + n * 3, none⟩ = some (.slice ra rs.length rc) ∧ w'.cell? ⟨b, off + n * 3 + 1, none⟩ = some (.slice ga gs.length gc) ∧ w'.cell? ⟨b, off + n * 3 + 2, none⟩ = some (.slice sa ss.length sc) ∧ w'.cell? ⟨b, off + (n + 1) * 3, none⟩ = some (.slice ra' rs'.length rc') ∧ w'.cell? ⟨b, off + (n + 1) * 3 + 1, none⟩ = some (.slice ga' gs'.length gc') ∧ w'.cell? ⟨b, off + (n + 1) * 3 + 2, none⟩ = some (.slice sa' ss'.length sc')) ((refine KS.out _ ?_; go_split_ands; repeat (first | assumption | exact Below.refl _ _ | refine grow_drew ?_ | refine grow_alloc ?_ _ | refine grow_trans ?_ (by assumption))))
      (first
        | (go_at_call 11; refine (C11'.out _ ?_).mono ?_; (go_split_ands; assumption); rintro e wc ⟨rfl, hbc⟩)
        | (go_at_call 43; refine (gotBool0 c _).mono ?_; rintro e wd ⟨rfl, hbd⟩))
    all_goals (
      go_split_ands
      have BD : Below W.heap.size W wd := by assumption
      have p2 := ext_cell BD p1
      have q2 := ext_cell BD q1
      have HBD : Hid (Below w.heap.size w wd) := grow_trans HB.out BD
      have C47'' : Hid (Calls Try.prog 47 #[.slice (some ⟨b, off, none⟩) l.length lc] wd fun e w'' => ∃ v cl, e = .returned v ∧ TxRow wd.heap.size w'' v cl ∧ cl.map TxA.core = l.map TxA.core ∧ Below wd.heap.size wd w'') := C47'.out wd BD
      clear KS C11' C47' hbc hbd HB p1 q1 d0 d1 d2 d3 d4 d5 BD
      cases c with
      | true =>
        have H1' := H1.out rfl
        clear H1 H0 C47''
        go_wp2_with fail
        refine (leave_nz [1] _ 1 _ (by simp) (by decide) (errs1 _ _ _ rfl)).mono ?_
        rintro e w' ⟨rfl, rfl⟩
        exact ⟨rfl, H1' _ (grow_alloc HBD.out _)⟩
      | false =>
        have H0' : Hid (∀ v cl w', TxRow w.heap.size w' v cl → cl.map TxA.core = (swapX l n).map TxA.core → Below w.heap.size w w' → Post (.returned v) w') := H0.out rfl
        clear H1 H0
        go_wp2_with fail
        refine C47''.out.mono ?_
        clear C47''
        rintro e wz ⟨v, cl, rfl, hrow, hcore, hbz⟩
        have q3 := ext_cell hbz q2
        have hcl : cl.length = l.length := by
          have h := congrArg List.length hcore
          simpa using h
        obtain ⟨g, cap, rfl, hCg, hat⟩ := hrow.at (by omega)
        obtain ⟨a0, a1, a2, a3, a4, a5⟩ := hat n (by omega)
        obtain ⟨c0, c1, c2, c3, c4, c5⟩ := hat (n + 1) (by omega)
        rw [hcl]
        have HROW : Hid (TxRow wd.heap.size wz (.slice (some ⟨g, 0, none⟩) cl.length cap) cl) := hrow
        have HCORE : Hid (cl.map TxA.core = l.map TxA.core) := hcore
        have HBZ : Hid (Below w.heap.size w wz) := grow_trans HBD.out hbz
        have hqg : q ≠ g := by
          have h1 := World.block_lt_of_cell? wd _ q2
          simp only at h1
          omega
        have RR : Hid (TxRow wd.heap.size (put3 (put3 wz g n (cl.getD (n + 1) x0)) g (n + 1) (cl.getD n x0)) (.slice (some ⟨g, 0, none⟩) l.length cap) (swapX cl n)) := by
          have h := hrow.swap rfl n (by omega)
          rw [hcl] at h
          exact h
        have RC : Hid ((swapX cl n).map TxA.core = (swapX l n).map TxA.core) := swapX_core hcore n
        have hgw : w.heap.size ≤ g := Nat.le_trans HBD.out.size hCg
        have RB : Hid (Below w.heap.size w (put3 (put3 wz g n (cl.getD (n + 1) x0)) g (n + 1) (cl.getD n x0))) := put3_below (put3_below HBZ.out g n _ hgw) g (n + 1) _ hgw
        have HWD : Hid (w.heap.size ≤ wd.heap.size) := HBD.out.size
        clear hrow hcore hat q2 p2 hbz HROW HCORE HBZ hcl hCg hgw
        generalize swapX cl n = sl at *
        generalize cl.getD n x0 = x1 at *
        generalize cl.getD (n + 1) x0 = y1 at *
        obtain ⟨xa, xb, xc, xd, xe, xf, xg, xh, xi⟩ := x1
        obtain ⟨ya, yb, yc, yd, ye, yf, yg, yh, yi⟩ := y1
        simp only [put3] at a0 a1 a2 c0 c1 c2 RR RB
        go_upto_region 5 with fail
        go_region
        all_goals (
          have RR' := RR.out.below (grow_drew (Below.refl _ _))
          have RB' := grow_drew RB.out
          clear RR RB a0 a1 a2 a3 a4 a5 c0 c1 c2 c3 c4 c5 q3
          go_wp2
          exact H0'.out _ _ _ (RR'.low HWD.out) RC.out RB'))
    )

/-- What Swap answers. -/
def swE (l : List TxA) (n : Int) : Int := if firstNZ [chkL l, nextE n l.length] = 0 then (if clashX (gX l n.toNat) (gX l (n.toNat + 1)) = true then 1 else 0) else firstNZ [chkL l, nextE n l.length]
def swL (l : List TxA) (n : Int) : List TxA := if swE l n = 0 then swapX l n.toNat else []

set_option maxRecDepth 100000 in
set_option maxHeartbeats 1000000 in
theorem swap_by (n x : Int) (Q : Value → World → Prop) (w : World)
    (h : Calls Try.prog 44 #[.func (.func 45) #[] #[.pointer (some ⟨w.heap.size, 0, none⟩), .pointer (some ⟨w.heap.size + 1, 0, none⟩)]] ((w.alloc (.cells #[.slice la l.length lc] 27)).alloc (.cells #[.int .i64 n] 3)) fun e w' => ∃ v, e = .returned (.tuple #[v, .int .i64 x]) ∧ Q v w' ∧ Below w.heap.size w w') :
    Calls Try.prog 13 #[.slice la l.length lc, .int .i64 n] w fun e w' => ∃ v, e = .returned (.tuple #[v, .int .i64 x]) ∧ Q v w' ∧ Below w.heap.size w w' := by
  have hmf : ∀ (fn : Fn) (first cap : Array Value) (w : World), (Instr.makeFunc fn first cap).run Try.prog w = .ok (.func fn first cap) w := fun _ _ _ _ => rfl
  have H : Hid (Calls Try.prog 44 #[.func (.func 45) #[] #[.pointer (some ⟨w.heap.size, 0, none⟩), .pointer (some ⟨w.heap.size + 1, 0, none⟩)]] ((w.alloc (.cells #[.slice la l.length lc] 27)).alloc (.cells #[.int .i64 n] 3)) fun e w' => ∃ v, e = .returned (.tuple #[v, .int .i64 x]) ∧ Q v w' ∧ Below w.heap.size w w') := h
  clear h
  go_enter Try.func13, Try.ntmps13
  go_wp2_with fail
  refine H.out.mono ?_
  clear H
  rintro e w1 ⟨v, rfl, hq, hb⟩
  have hB : Hid (Below w.heap.size w w1) := hb
  have hQ : Hid (Q v w1) := hq
  clear hb hq
  go_wp2
  go_ret2
  exact ⟨v, rfl, hQ.out, hB.out⟩

set_option maxRecDepth 100000 in
theorem swap_any (n : Int) (w : World) (hl : IsTxs w la l) (hm : l.length ≤ maxLen) :
    Calls Try.prog 13 #[.slice la l.length lc, .int .i64 n] w fun e w' => ∃ v, e = .returned (.tuple #[v, .int .i64 (swE l n)]) ∧ (∃ cl, TxRow w.heap.size w' v cl ∧ cl.map TxA.core = (swL l n).map TxA.core) ∧ Below w.heap.size w w' := by
  have g1 : Below w.heap.size w ((w.alloc (.cells #[.slice la l.length lc] 27)).alloc (.cells #[.int .i64 n] 3)) := grow_alloc (grow_alloc (Below.refl _ _) _) _
  refine swap_by la lc l n _ (fun v w' => ∃ cl, TxRow w.heap.size w' v cl ∧ cl.map TxA.core = (swL l n).map TxA.core) w ?_
  have p : (((w.alloc (.cells #[.slice la l.length lc] 27)).alloc (.cells #[.int .i64 n] 3)).alloc (.cells #[.int .i64 0] 28)).cell? ⟨w.heap.size, 0, none⟩ = some (.slice la l.length lc) := by
    rw [World.cell?_alloc_lt _ _ _ (by simp; omega), World.cell?_alloc_lt _ _ _ (by simp)]; simp
  have q : (((w.alloc (.cells #[.slice la l.length lc] 27)).alloc (.cells #[.int .i64 n] 3)).alloc (.cells #[.int .i64 0] 28)).cell? ⟨w.heap.size + 1, 0, none⟩ = some (.int .i64 n) := by
    rw [World.cell?_alloc_lt _ _ _ (by simp)]; simp
  generalize (w.alloc (.cells #[.slice la l.length lc] 27)).alloc (.cells #[.int .i64 n] 3) = W at *
  have hl' : IsTxs (W.alloc (.cells #[.int .i64 0] 28)) la l := hl.below (grow_alloc g1 _)
  by_cases he : firstNZ [chkL l, nextE n l.length] = 0
  · have hz := firstNZ_zero _ he
    have hC : chkL l = 0 := by simpa using hz 0
    have hN := nextE_zero (n := n) (k := l.length) (by simpa using hz 1)
    obtain ⟨k, rfl⟩ : ∃ k : Nat, n = k := ⟨n.toNat, by omega⟩
    have e0 : swE l k = if clashX (gX l k) (gX l (k + 1)) = true then 1 else 0 := if_pos he
    cases hc : clashX (gX l k) (gX l (k + 1)) with
    | true =>
      have e1 : swE l k = 1 := by rw [e0, hc]; rfl
      have e2 : swL l k = [] := if_neg (by rw [e1]; decide)
      rw [e1, e2]
      refine (caughtTx_pan 45 _ (fun _ => rfl) 1 W (swap1_to la lc l k _ _ _ _ p q hl' hm he (by omega) hC ?_ ?_)).mono ?_
      · intro _ w' hb
        exact ⟨rfl, hb.mono (by simp)⟩
      · intro h
        rw [hc] at h
        cases h
      · rintro e w' ⟨rfl, hb⟩
        exact ⟨.slice none 0 0, rfl, ⟨[], txRow_nil _ _, rfl⟩, grow_trans g1 hb⟩
    | false =>
      have e1 : swE l k = 0 := by rw [e0, hc]; rfl
      have e2 : swL l k = swapX l k := if_pos e1
      rw [e1, e2]
      refine (caughtTx_ret 45 _ (fun _ => rfl) (fun v w' => ∃ cl, TxRow (W.heap.size + 1) w' v cl ∧ cl.map TxA.core = (swapX l k).map TxA.core) W ?_ (swap1_to la lc l k _ _ _ _ p q hl' hm he (by omega) hC ?_ ?_)).mono ?_
      · rintro v w' ⟨cl, hr, hcr⟩
        exact ⟨cl, hr.kept (grown_one w' W.heap.size 0 _) (fun j e => by injection e with e; omega), hcr⟩
      · intro h
        rw [hc] at h
        cases h
      · intro _ v cl w' hr hcr hb
        exact ⟨v, rfl, ⟨cl, by simpa using hr, hcr⟩, hb.mono (by simp)⟩
      · rintro e w' ⟨v, rfl, ⟨cl, hr, hcr⟩, hb⟩
        exact ⟨v, rfl, ⟨cl, hr.low (by have := g1.size; omega), hcr⟩, grow_trans g1 hb⟩
  · have e1 : swE l n = firstNZ [chkL l, nextE n l.length] := if_neg he
    have e2 : swL l n = [] := if_neg (by rw [e1]; exact he)
    rw [e1, e2]
    refine (caughtTx_pan 45 _ (fun _ => rfl) (firstNZ [chkL l, nextE n l.length]) W ((swap1_pan la lc l n _ _ _ p q hl' hm he).mono ?_)).mono ?_
    · rintro e w' ⟨rfl, hb⟩
      exact ⟨rfl, hb.mono (by simp)⟩
    · rintro e w' ⟨rfl, hb⟩
      exact ⟨.slice none 0 0, rfl, ⟨[], txRow_nil _ _, rfl⟩, grow_trans g1 hb⟩
end Go.Proofs.Ytikolifbljnokaa

/-
  The document's own SwapOf.
  Conditions: the transactions can be read.
-/
namespace Go.Proofs.Ytikolifbljnokaa
open Go.RowKit

theorem own_put3 {C : Nat} {w : World} {g cap : Nat} {l : List TxA} (h : w.ownsRow C 26 3 (.slice (some ⟨g, 0, none⟩) l.length cap) l.length (flatX l)) (i : Nat) (hi : i < l.length) (x : TxA) : (put3 w g i x).ownsRow C 26 3 (.slice (some ⟨g, 0, none⟩) l.length cap) l.length (flatX (l.set i x)) := by
  rw [flatX_set l i x hi]
  exact (((h.stored (i * 3) _).1.stored (i * 3 + 1) _).1.stored (i * 3 + 2) _).1
theorem own_swap {C : Nat} {w : World} {g cap : Nat} {l : List TxA} (h : w.ownsRow C 26 3 (.slice (some ⟨g, 0, none⟩) l.length cap) l.length (flatX l)) (n : Nat) (hn : n + 1 < l.length) : (put3 (put3 w g n (l.getD (n + 1) x0)) g (n + 1) (l.getD n x0)).ownsRow C 26 3 (.slice (some ⟨g, 0, none⟩) l.length cap) l.length (flatX (swapX l n)) := by
  have h1 := own_put3 h n (by omega) (l.getD (n + 1) x0)
  have h2 := own_put3 (l := l.set n (l.getD (n + 1) x0)) (by rw [List.length_set]; exact h1) (n + 1) (by rw [List.length_set]; exact hn) (l.getD n x0)
  rw [List.length_set] at h2
  exact h2
theorem swapX_mem {l : List TxA} {n : Nat} (hn : n + 1 < l.length) {x : TxA} (h : x ∈ swapX l n) : x ∈ l := by
  unfold swapX at h
  have m1 : l.getD (n + 1) x0 ∈ l := by simp [List.getD, hn]
  have m0 : l.getD n x0 ∈ l := by
    have : n < l.length := by omega
    simp [List.getD, this]
  rcases List.mem_or_eq_of_mem_set h with h | rfl
  · rcases List.mem_or_eq_of_mem_set h with h | rfl
    · exact h
    · exact m1
  · exact m0
theorem swapX_len (l : List TxA) (n : Nat) : (swapX l n).length = l.length := by simp [swapX]
theorem IsTxs.mem {w : World} {a : Option Addr} {l : List TxA} (h : IsTxs w a l) {x : TxA} (hx : x ∈ l) : IsX w x := by
  obtain ⟨i, hi, rfl⟩ := List.mem_iff_getElem.1 hx
  obtain ⟨_, _, _, _, _, _, _, hX⟩ := h i hi
  have e : l.getD i x0 = l[i] := by simp [List.getD, hi]
  rw [e] at hX
  exact hX
theorem own_at3 {C : Nat} {w : World} {v : Value} {l : List TxA} (h : w.ownsRow C 26 3 v l.length (flatX l)) (h0 : 0 < l.length) : ∃ g cap, v = .slice (some ⟨g, 0, none⟩) l.length cap ∧ C ≤ g ∧ ∀ i, i < l.length → w.cell? ⟨g, i * 3, none⟩ = some (.slice (l.getD i x0).ra (l.getD i x0).rs.length (l.getD i x0).rc) ∧ w.cell? ⟨g, i * 3 + 1, none⟩ = some (.slice (l.getD i x0).ga (l.getD i x0).gs.length (l.getD i x0).gc) ∧ w.cell? ⟨g, i * 3 + 2, none⟩ = some (.slice (l.getD i x0).sa (l.getD i x0).ss.length (l.getD i x0).sc) ∧ w.frozen? ⟨g, i * 3, none⟩ = false ∧ w.frozen? ⟨g, i * 3 + 1, none⟩ = false ∧ w.frozen? ⟨g, i * 3 + 2, none⟩ = false := by
  rcases h.2 with ⟨rfl, h1⟩ | ⟨g, cap, cur, rfl, hb, hg, hnc, hcm, hcs, htake⟩
  · omega
  · refine ⟨g, cap, rfl, hb, fun i hi => ?_⟩
    have hc : ∀ j, j < 3 → w.cell? ⟨g, i * 3 + j, none⟩ = (xcells (l.getD i x0))[j]? := fun j hj => by
      rw [h.cellAt (i * 3 + j) (by omega)]
      exact flatX_at l i j hi hj
    exact ⟨hc 0 (by omega), hc 1 (by omega), hc 2 (by omega), h.frozenAt _, h.frozenAt _, h.frozenAt _⟩

variable (la : Option Addr) (lc : Nat) (l : List TxA)

set_option maxRecDepth 100000 in
set_option maxHeartbeats 1000000 in
theorem swapOf_bad (n : Int) (w : World) (hl : IsTxs w la l) (hm : l.length ≤ maxLen) (he : ¬ firstNZ [chkL l, nextE n l.length] = 0) :
    Calls Try.prog 17 #[.slice la l.length lc, .int .i64 n] w fun e w' => e = .returned (.tuple #[.slice none 0 0, .int .i64 (firstNZ [chkL l, nextE n l.length])]) ∧ Below w.heap.size w w' := by
  have HL : Hid (IsTxs w la l) := hl
  have hw0 : IntKind.i64.wrap ((l.length : Int) - 2) = (l.length : Int) - 2 := by
    rw [IntWalk.i64_in] <;> (unfold maxLen at hm; omega)
  by_cases hC : chkL l = 0
  · have e1 : firstNZ [chkL l, nextE n l.length] = nextE n l.length := by
      rw [nz_zero _ _ hC]
      unfold firstNZ
      split
      · rename_i h; rw [h]; rfl
      · rfl
    rw [e1] at he ⊢
    have hN : nextE n l.length = 5 := by
      unfold nextE at he ⊢
      split
      · rfl
      · rename_i h; rw [if_neg h] at he; exact absurd rfl he
    rw [hN]
    have hd : (decide ((0 : Int) ≤ n) && decide (n ≤ (l.length : Int) - 2)) = false := by
      unfold nextE at hN
      by_cases c : n < 0 ∨ (l.length : Int) - 1 ≤ n
      · by_cases c1 : n < 0
        · simp; intro h; omega
        · simp; intro h; omega
      · rw [if_neg c] at hN; omega
    have HC : Hid (chkL l = 0) := hC
    clear hl hC he hN e1
    go_enter Try.func17, Try.ntmps17
    go_wp2_with fail
    refine (checkTxns_any la lc l _ HL.out).mono ?_
    rintro e w1 ⟨rfl, hb1⟩
    rw [HC.out]
    have B1 : Hid (Below w.heap.size w w1) := hb1
    clear hb1
    go_wp2_with fail
    refine (within_any n 0 _ _).mono ?_
    rintro e w2 ⟨rfl, rfl⟩
    rw [hd]
    go_wp2
    go_ret2
    exact ⟨rfl, B1.out⟩
  · have e1 : firstNZ [chkL l, nextE n l.length] = chkL l := nz_some _ _ hC
    rw [e1]
    have hb : (chkL l != 0) = true := by simpa using hC
    clear hl hC he e1
    go_enter Try.func17, Try.ntmps17
    go_wp2_with fail
    refine (checkTxns_any la lc l _ HL.out).mono ?_
    rintro e w1 ⟨rfl, hb1⟩
    have B1 : Hid (Below w.heap.size w w1) := hb1
    clear hb1
    go_wp2
    go_ret2
    exact ⟨rfl, B1.out⟩

set_option maxRecDepth 100000 in
set_option maxHeartbeats 4000000 in
theorem swapOf_to (n : Nat) (c : Bool) (w : World) (hl : IsTxs w la l) (hm : l.length ≤ maxLen) (hn : n + 1 < l.length) (hC : chkL l = 0) (hc : clashX (gX l n) (gX l (n + 1)) = c) :
    Calls Try.prog 17 #[.slice la l.length lc, .int .i64 n] w fun e w' => (c = true ∧ e = .returned (.tuple #[.slice none 0 0, .int .i64 1]) ∧ Below w.heap.size w w') ∨ (c = false ∧ ∃ a cap, e = .returned (.tuple #[.slice a l.length cap, .int .i64 0]) ∧ IsTxs w' a (swapX l n) ∧ Below w.heap.size w w') := by
  obtain ⟨i0, hi, hz0, hz1, hz2⟩ := info_parts Try.info26
  have hl8 := chkL_small hC
  have HL : Hid (IsTxs w la l) := hl
  have HC : Hid (chkL l = 0) := hC
  have C19 : Hid (∀ w', Below w.heap.size w w' → Calls Try.prog 19 #[.agg #[.slice (l.getD n x0).ra (l.getD n x0).rs.length (l.getD n x0).rc, .slice (l.getD n x0).ga (l.getD n x0).gs.length (l.getD n x0).gc, .slice (l.getD n x0).sa (l.getD n x0).ss.length (l.getD n x0).sc], .agg #[.slice (l.getD (n + 1) x0).ra (l.getD (n + 1) x0).rs.length (l.getD (n + 1) x0).rc, .slice (l.getD (n + 1) x0).ga (l.getD (n + 1) x0).gs.length (l.getD (n + 1) x0).gc, .slice (l.getD (n + 1) x0).sa (l.getD (n + 1) x0).ss.length (l.getD (n + 1) x0).sc]] w' fun e w'' => e = .returned (.bool c) ∧ Below w'.heap.size w' w'') := fun w' hb => by
    obtain ⟨_, _, _, _, _, _, _, hx⟩ := hl n (by omega)
    obtain ⟨_, _, _, _, _, _, _, hy⟩ := hl (n + 1) hn
    have h := clashes_any _ _ w' (hx.below hb) (hy.below hb)
    rw [← hc]
    exact h
  have hw1 : IntKind.i64.wrap ((l.length : Int) - 2) = (l.length : Int) - 2 := by
    rw [IntWalk.i64_in] <;> (unfold maxLen at hm; omega)
  have hd : (decide ((0 : Int) ≤ (n : Int)) && decide ((n : Int) ≤ (l.length : Int) - 2)) = true := by simp; omega
  have i1 : (0 : Int) ≤ (n : Int) := by omega
  have i2 : (n : Int) < (l.length : Int) := by omega
  have i3 : (0 : Int) ≤ (n : Int) + 1 := by omega
  have i4 : (n : Int) + 1 < (l.length : Int) := by omega
  have i5 : ((n : Int) + 1).toNat = n + 1 := by omega
  have hw0 : IntKind.i64.wrap ((n : Int) + 1) = (n : Int) + 1 := by rw [IntWalk.i64_in] <;> omega
  clear hl hC hm hc
  go_enter Try.func17, Try.ntmps17
  go_wp2_with fail
  refine (checkTxns_any la lc l _ HL.out).mono ?_
  rintro e w1 ⟨rfl, hb1⟩
  rw [HC.out]
  obtain ⟨b, off, rfl, hbl, e0, e1, e2, _⟩ := HL.out n (by omega)
  obtain ⟨b', off', hbe, _, f0, f1, f2, _⟩ := HL.out (n + 1) hn
  injection hbe with hbe
  injection hbe with r1 r2 _
  subst r1 r2
  have d0 := ext_cell hb1 e0
  have d1 := ext_cell hb1 e1
  have d2 := ext_cell hb1 e2
  have d3 := ext_cell hb1 f0
  have d4 := ext_cell hb1 f1
  have d5 := ext_cell hb1 f2
  have B1 : Hid (Below w.heap.size w w1) := hb1
  clear e0 e1 e2 f0 f1 f2 hb1
  go_wp2_with fail
  refine (within_any n 0 _ _).mono ?_
  rintro e w2 ⟨rfl, rfl⟩
  rw [hd]
  have OS : Hid (∀ (C : Nat) (w : World) (g cap : Nat), w.ownsRow C 26 3 (.slice (some ⟨g, 0, none⟩) l.length cap) l.length (flatX l) → (put3 (put3 w g n (l.getD (n + 1) x0)) g (n + 1) (l.getD n x0)).ownsRow C 26 3 (.slice (some ⟨g, 0, none⟩) l.length cap) l.length (flatX (swapX l n))) := fun C w g cap h => own_swap h n hn
  have OA : Hid (∀ (C : Nat) (w : World) (v : Value), w.ownsRow C 26 3 v l.length (flatX l) → ∃ g cap, v = .slice (some ⟨g, 0, none⟩) l.length cap ∧ C ≤ g ∧ (∃ a0 a1 a2, w.cell? ⟨g, n * 3, none⟩ = some a0 ∧ w.cell? ⟨g, n * 3 + 1, none⟩ = some a1 ∧ w.cell? ⟨g, n * 3 + 2, none⟩ = some a2) ∧ (∃ a0 a1 a2, w.cell? ⟨g, (n + 1) * 3, none⟩ = some a0 ∧ w.cell? ⟨g, (n + 1) * 3 + 1, none⟩ = some a1 ∧ w.cell? ⟨g, (n + 1) * 3 + 2, none⟩ = some a2) ∧ ∀ j, w.frozen? ⟨g, j, none⟩ = false) := fun C w v h => by
    obtain ⟨g, cap, rfl, hg, hat⟩ := own_at3 h (by omega)
    obtain ⟨a0, a1, a2, _⟩ := hat n (by omega)
    obtain ⟨c0, c1, c2, _⟩ := hat (n + 1) hn
    exact ⟨g, cap, rfl, hg, ⟨_, _, _, a0, a1, a2⟩, ⟨_, _, _, c0, c1, c2⟩, fun j => h.frozenAt j⟩
  generalize l.getD n x0 = x at *
  generalize l.getD (n + 1) x0 = y at *
  obtain ⟨ra, ga, sa, rc, gc, sc, rs, gs, ss⟩ := x
  obtain ⟨ra', ga', sa', rc', gc', sc', rs', gs', ss'⟩ := y
  simp only [put3] at d0 d1 d2 d3 d4 d5 C19 OS
  have KS : Hid (∀ w', Below w2.heap.size w2 w' → Below w2.heap.size w2 w' ∧ w'.cell? ⟨b, off + n * 3, none⟩ = some (.slice ra rs.length rc) ∧ w'.cell? ⟨b, off + n * 3 + 1, none⟩ = some (.slice ga gs.length gc) ∧ w'.cell? ⟨b, off + n * 3 + 2, none⟩ = some (.slice sa ss.length sc) ∧ w'.cell? ⟨b, off + (n + 1) * 3, none⟩ = some (.slice ra' rs'.length rc') ∧ w'.cell? ⟨b, off + (n + 1) * 3 + 1, none⟩ = some (.slice ga' gs'.length gc') ∧ w'.cell? ⟨b, off + (n + 1) * 3 + 2, none⟩ = some (.slice sa' ss'.length sc')) := fun w' h => ⟨h, ext_cell h d0, ext_cell h d1, ext_cell h d2, ext_cell h d3, ext_cell h d4, ext_cell h d5⟩
  go_upto_region 6 with fail
  go_region_held3 (fun w' => Below w2.heap.size w2 w' ∧ w'.cell? ⟨b, off + n * 3, none⟩ = some (.slice ra rs.length rc) ∧ w'.cell? ⟨b, off + n * 3 + 1, none⟩ = some (.slice ga gs.length gc) ∧ w'.cell? ⟨b, off + n * 3 + 2, none⟩ = some (.slice sa ss.length sc) ∧ w'.cell? ⟨b, off + (n + 1) * 3, none⟩ = some (.slice ra' rs'.length rc') ∧ w'.cell? ⟨b, off + (n + 1) * 3 + 1, none⟩ = some (.slice ga' gs'.length gc') ∧ w'.cell? ⟨b, off + (n + 1) * 3 + 2, none⟩ = some (.slice sa' ss'.length sc')) ((refine KS.out _ ?_; go_split_ands; repeat (first | assumption | exact Below.refl _ _ | refine grow_drew ?_ | refine grow_alloc ?_ _ | refine grow_trans ?_ (by assumption))))
    (first
      | (go_at_call 19; refine (C19.out _ ?_).mono ?_; (refine grow_trans B1.out ?_; go_split_ands; assumption); rintro e wc ⟨rfl, hbc⟩))
  all_goals (
    go_split_ands
    have BC : Below w2.heap.size w2 wc := by assumption
    have HBC : Hid (Below w.heap.size w wc) := grow_trans B1.out BC
    have d0 := ext_cell BC d0
    have d1 := ext_cell BC d1
    have d2 := ext_cell BC d2
    have d3 := ext_cell BC d3
    have d4 := ext_cell BC d4
    have d5 := ext_cell BC d5
    clear KS C19 hbc B1 BC
    cases c with
    | true =>
      go_wp2
      go_ret2
      exact ⟨rfl, HBC.out⟩
    | false =>
      have HLC : Hid (IsTxs wc (some ⟨b, off, none⟩) l) := HL.out.below HBC.out
      have BA : Hid (Below wc.heap.size wc (wc.alloc (.cells #[] 26))) := grow_alloc (Below.refl _ _) _
      have LI : Hid (Lies (wc.alloc (.cells #[] 26)) ⟨b, off, none⟩ (flatX l)) := lies_txs (HLC.out.below BA.out)
      go_upto_region 9 with (first
        | (at_builtin; (refine wpList_append_own _ rfl _ _ 27 rfl wc.heap.size 26 i0 (.agg #[.slice none 0 0, .slice none 0 0, .slice none 0 0]) 3 72 Try.underlying27 hi hz0 hz1 hz2 rfl (by decide) _ 0 [] rfl (own_empty3 wc wc.heap.size wc.heap.size rfl (Nat.le_refl _)) ⟨b, off, none⟩ l.length lc (flatX l) rfl (flatX_len l) LI.out (flatX_one l) (by unfold maxLen; omega) (by omega) (by simp) ?_); intro v' w3 hown' hgrow _)
        | go_in)
      have ho : w3.ownsRow wc.heap.size 26 3 v' l.length (flatX l) := by simpa using hown'
      have B3 : Below wc.heap.size wc w3 := (BA.out).grown hgrow (by simp) (fun j hj => ((own_empty3 wc wc.heap.size wc.heap.size rfl (Nat.le_refl _)).lt j hj).1)
      obtain ⟨g, cap, rfl, hg, ⟨a0, a1, a2, k0, k1, k2⟩, ⟨a3, a4, a5, k3, k4, k5⟩, hfz⟩ := OA.out _ _ _ ho
      have z0 := hfz (n * 3)
      have z1 := hfz (n * 3 + 1)
      have z2 := hfz (n * 3 + 2)
      have z3 := hfz ((n + 1) * 3)
      have z4 := hfz ((n + 1) * 3 + 1)
      have z5 := hfz ((n + 1) * 3 + 2)
      have d0 := ext_cell B3 d0
      have d1 := ext_cell B3 d1
      have d2 := ext_cell B3 d2
      have d3 := ext_cell B3 d3
      have d4 := ext_cell B3 d4
      have d5 := ext_cell B3 d5
      have RO := OS.out _ _ _ _ ho
      have hwc : w.heap.size ≤ g := Nat.le_trans HBC.out.size hg
      have hbg : b ≠ g := by omega
      have HB3 : Hid (Below w.heap.size w w3) := grow_trans HBC.out B3
      have RB := grow_set (grow_set (grow_set (grow_set (grow_set (grow_set HB3.out (p := ⟨g, n * 3, none⟩) hwc (.slice ra' rs'.length rc')) (p := ⟨g, n * 3 + 1, none⟩) hwc (.slice ga' gs'.length gc')) (p := ⟨g, n * 3 + 2, none⟩) hwc (.slice sa' ss'.length sc')) (p := ⟨g, (n + 1) * 3, none⟩) hwc (.slice ra rs.length rc)) (p := ⟨g, (n + 1) * 3 + 1, none⟩) hwc (.slice ga gs.length gc)) (p := ⟨g, (n + 1) * 3 + 2, none⟩) hwc (.slice sa ss.length sc)
      obtain ⟨ta, tc, hv, hT⟩ := txs_of_owns RO (fun x hx => (HL.out.mem (swapX_mem hn hx)).below RB)
      injection hv with hv1 hv2 hv3
      subst hv1
      have HT : Hid _ := hT
      have HRB : Hid _ := RB
      clear hown' hgrow ho B3 OA OS RO hfz LI BA HLC HBC hT RB hv2 hv3
      go_wp2
      go_ret2
      exact ⟨_, ⟨_, rfl⟩, HT.out, HRB.out⟩)

set_option maxRecDepth 100000 in
theorem swapOf_any (n : Int) (w : World) (hl : IsTxs w la l) (hm : l.length ≤ maxLen) :
    Calls Try.prog 17 #[.slice la l.length lc, .int .i64 n] w fun e w' => ∃ a cap, e = .returned (.tuple #[.slice a (swL l n).length cap, .int .i64 (swE l n)]) ∧ IsTxs w' a (swL l n) ∧ Below w.heap.size w w' := by
  by_cases he : firstNZ [chkL l, nextE n l.length] = 0
  · have hz := firstNZ_zero _ he
    have hC : chkL l = 0 := by simpa using hz 0
    have hN := nextE_zero (n := n) (k := l.length) (by simpa using hz 1)
    obtain ⟨k, rfl⟩ : ∃ k : Nat, n = k := ⟨n.toNat, by omega⟩
    have e0 : swE l k = if clashX (gX l k) (gX l (k + 1)) = true then 1 else 0 := if_pos he
    refine (swapOf_to la lc l k _ w hl hm (by omega) hC rfl).mono ?_
    rintro e w' (⟨hc, rfl, hb⟩ | ⟨hc, a, cap, rfl, hT, hb⟩)
    · have e1 : swE l k = 1 := by rw [e0, hc]; rfl
      have e2 : swL l k = [] := if_neg (by rw [e1]; decide)
      rw [e1, e2]
      exact ⟨none, 0, rfl, fun i hi => absurd hi (by simp), hb⟩
    · have e1 : swE l k = 0 := by rw [e0, hc]; rfl
      have e2 : swL l k = swapX l k := if_pos e1
      rw [e1, e2, swapX_len]
      exact ⟨a, cap, rfl, hT, hb⟩
  · have e1 : swE l n = firstNZ [chkL l, nextE n l.length] := if_neg he
    have e2 : swL l n = [] := if_neg (by rw [e1]; exact he)
    rw [e1, e2]
    exact (swapOf_bad la lc l n w hl hm he).mono fun e w' ⟨h1, h2⟩ => ⟨none, 0, h1, fun i hi => absurd hi (by simp), h2⟩
end Go.Proofs.Ytikolifbljnokaa

/-
  The transactions of the statements' own plan (mark, three).
  Conditions: none.
-/
namespace Go.Proofs.Ytikolifbljnokaa
open Go.RowKit

def sMark (n : Int) : St := ⟨7, 1, 1, n, 1, 0⟩
abbrev xMark (n : Int) (sa : Option Addr) (sc : Nat) : TxA := ⟨none, none, sa, 0, 0, sc, [], [], [sMark n]⟩

/-- No list of a transaction lies below C. -/
def XAt (C : Nat) (ra ga sa : Option Addr) : Prop := (∀ ad, ra = some ad → C ≤ ad.block) ∧ (∀ ad, ga = some ad → C ≤ ad.block) ∧ (∀ ad, sa = some ad → C ≤ ad.block)
theorem XAt.low {C C' : Nat} {ra ga sa : Option Addr} (h : XAt C ra ga sa) (hc : C' ≤ C) : XAt C' ra ga sa :=
  ⟨fun ad e => Nat.le_trans hc (h.1 ad e), fun ad e => Nat.le_trans hc (h.2.1 ad e), fun ad e => Nat.le_trans hc (h.2.2 ad e)⟩
theorem far_ints {w : World} {a : Option Addr} {zs : List Int} (h : IsInts w a zs) (b j : Nat) (v : Value) (hne : ∀ ad, a = some ad → b < ad.block) : IsInts (w.setCell ⟨b, j, none⟩ v) a zs := fun i hi => by
  obtain ⟨b', off, ha, hlt, hc⟩ := h i hi
  have hn : b < b' := hne _ ha
  exact ⟨b', off, ha, by simpa using hlt, by rw [World.cell?_setCell_far _ _ _ _ (by simp; omega)]; exact hc⟩
theorem far_gs {w : World} {a : Option Addr} {zs : List Gd} (h : IsGs w a zs) (b j : Nat) (v : Value) (hne : ∀ ad, a = some ad → b < ad.block) : IsGs (w.setCell ⟨b, j, none⟩ v) a zs := fun i hi => by
  obtain ⟨b', off, ha, hlt, c0, c1, c2, c3, c4⟩ := h i hi
  have hn : b < b' := hne _ ha
  have far : ∀ k u, w.cell? ⟨b', k, none⟩ = some u → (w.setCell ⟨b, j, none⟩ v).cell? ⟨b', k, none⟩ = some u := fun k u hc => by rw [World.cell?_setCell_far _ _ _ _ (by simp; omega)]; exact hc
  exact ⟨b', off, ha, by simpa using hlt, far _ _ c0, far _ _ c1, far _ _ c2, far _ _ c3, far _ _ c4⟩
theorem far_ss {w : World} {a : Option Addr} {zs : List St} (h : IsSs w a zs) (b j : Nat) (v : Value) (hne : ∀ ad, a = some ad → b < ad.block) : IsSs (w.setCell ⟨b, j, none⟩ v) a zs := fun i hi => by
  obtain ⟨b', off, ha, hlt, c0, c1, c2, c3, c4, c5⟩ := h i hi
  have hn : b < b' := hne _ ha
  have far : ∀ k u, w.cell? ⟨b', k, none⟩ = some u → (w.setCell ⟨b, j, none⟩ v).cell? ⟨b', k, none⟩ = some u := fun k u hc => by rw [World.cell?_setCell_far _ _ _ _ (by simp; omega)]; exact hc
  exact ⟨b', off, ha, by simpa using hlt, far _ _ c0, far _ _ c1, far _ _ c2, far _ _ c3, far _ _ c4, far _ _ c5⟩
theorem far_x {w : World} {x : TxA} (h : IsX w x) (b j : Nat) (v : Value) (hx : XAt (b + 1) x.ra x.ga x.sa) : IsX (w.setCell ⟨b, j, none⟩ v) x :=
  ⟨⟨far_ints h.t.r b j v (fun ad e => hx.1 ad e), far_gs h.t.g b j v (fun ad e => hx.2.1 ad e), far_ss h.t.s b j v (fun ad e => hx.2.2 ad e), h.t.lr, h.t.lg, h.t.ls⟩, h.rn, h.gn, h.sn⟩
theorem far_txs {w : World} {a : Option Addr} {l : List TxA} (h : IsTxs w a l) (b j : Nat) (v : Value) (hne : ∀ ad, a = some ad → b < ad.block) (hx : ∀ x ∈ l, XAt (b + 1) x.ra x.ga x.sa) : IsTxs (w.setCell ⟨b, j, none⟩ v) a l := fun i hi => by
  obtain ⟨b', off, ha, hlt, c0, c1, c2, hX⟩ := h i hi
  have hn : b < b' := hne _ ha
  have far : ∀ k u, w.cell? ⟨b', k, none⟩ = some u → (w.setCell ⟨b, j, none⟩ v).cell? ⟨b', k, none⟩ = some u := fun k u hc => by rw [World.cell?_setCell_far _ _ _ _ (by simp; omega)]; exact hc
  exact ⟨b', off, ha, by simpa using hlt, far _ _ c0, far _ _ c1, far _ _ c2, far_x hX b j v (hx _ (by simp [List.getD, hi]))⟩

set_option maxRecDepth 100000 in
set_option maxHeartbeats 1000000 in
theorem note_at (w : World) : Calls Try.prog 54 #[] w fun e w' => ∃ ra sa rc sc, e = .returned (.agg #[.slice ra ([1] : List Int).length rc, .slice none ([] : List Gd).length 0, .slice sa [sNote].length sc]) ∧ IsTx w' ra none sa [1] [] [sNote] ∧ XAt w.heap.size ra none sa ∧ Below w.heap.size w w' := by
  go_enter Try.func54, Try.ntmps54
  go_wp2_with fail
  refine (lawValue_any 0 _).mono ?_
  rintro e w' ⟨rfl, rfl⟩
  go_wp2_with fail
  refine (lawNumber_any 0 _).mono ?_
  rintro e w' ⟨rfl, rfl⟩
  go_wp2
  refine bodyPost_ret (v := .agg #[.slice (some ⟨w.heap.size + 1, 0, none⟩) 1 1, .slice none 0 0, .slice (some ⟨w.heap.size + 1 + 1 + 1 + 1, 0, none⟩) 1 1]) ?_ rfl ⟨_, _, _, _, rfl, ⟨?_, ?_, ?_, by decide, by decide, by decide⟩, ?_, ?_⟩
  · simp [results, Try.results54, go_sem]
  · generalize Obj.cells #[_, _, _] 26 = O0
    exact (isInts_one (w.alloc O0) (w.heap.size + 1) 1 (by simp)).below (by repeat (first | assumption | exact Below.refl _ _ | refine grow_drew ?_ | refine grow_alloc ?_ _ | refine grow_trans ?_ (by assumption)))
  · exact fun i hi => absurd hi (by simp)
  · exact isSs_one _ _ _ _ _ _ _ _ (by simp)
  · exact ⟨fun ad h => by first | (cases h; done) | (injection h with h; subst h; first | (simp; done) | (simp; omega)), fun ad h => by first | (cases h; done) | (injection h with h; subst h; first | (simp; done) | (simp; omega)), fun ad h => by first | (cases h; done) | (injection h with h; subst h; first | (simp; done) | (simp; omega))⟩
  · repeat (first | assumption | exact Below.refl _ _ | refine grow_drew ?_ | refine grow_alloc ?_ _ | refine grow_trans ?_ (by assumption))

set_option maxRecDepth 100000 in
set_option maxHeartbeats 1000000 in
theorem pay_at (n : Int) (w : World) : Calls Try.prog 53 #[.int .i64 n] w fun e w' => ∃ ra ga sa rc gc sc, e = .returned (.agg #[.slice ra ([0, 1] : List Int).length rc, .slice ga [gPay n].length gc, .slice sa [s1Pay n, s2Pay n].length sc]) ∧ IsTx w' ra ga sa [0, 1] [gPay n] [s1Pay n, s2Pay n] ∧ XAt w.heap.size ra ga sa ∧ Below w.heap.size w w' := by
  go_enter Try.func53, Try.ntmps53
  go_wp2_with fail
  refine (lawNumber_any n _).mono ?_
  rintro e w' ⟨rfl, rfl⟩
  go_wp2_with fail
  refine (lawValue_any 0 _).mono ?_
  rintro e w' ⟨rfl, rfl⟩
  go_wp2_with fail
  refine (lawValue_any 0 _).mono ?_
  rintro e w' ⟨rfl, rfl⟩
  go_wp2_with fail
  refine (lawNumber_any n _).mono ?_
  rintro e w' ⟨rfl, rfl⟩
  go_wp2_with fail
  refine (lawValue_any 1 _).mono ?_
  rintro e w' ⟨rfl, rfl⟩
  go_wp2_with fail
  refine (lawNumber_any n _).mono ?_
  rintro e w' ⟨rfl, rfl⟩
  go_wp2
  refine bodyPost_ret (v := .agg #[.slice (some ⟨w.heap.size + 1, 0, none⟩) 2 2, .slice (some ⟨w.heap.size + 1 + 1 + 1 + 1, 0, none⟩) 1 1, .slice (some ⟨w.heap.size + 1 + 1 + 1 + 1 + 1 + 1 + 1 + 1 + 1, 0, none⟩) 2 2]) ?_ rfl ⟨_, _, _, _, _, _, rfl, ⟨?_, ?_, ?_, by simp [maxLen], by simp [maxLen], by simp [maxLen]⟩, ?_, ?_⟩
  · simp [results, Try.results53, go_sem]
  · generalize Obj.cells #[_, _, _] 26 = O0
    exact (isInts_two (w.alloc O0) (w.heap.size + 1) 0 1 (by simp)).below (by repeat (first | assumption | exact Below.refl _ _ | refine grow_drew ?_ | refine grow_alloc ?_ _ | refine grow_trans ?_ (by assumption)))
  · generalize Obj.cells #[_, _, _] 26 = O0
    exact (isGs_one ((((w.alloc O0).alloc (.cells #[.int .i64 0, .int .i64 1] 3)).alloc (.cells #[.int .i64 1, .int .i64 n] 86)).alloc (.cells #[.int .i64 2, .int .i64 0] 86)) (w.heap.size + 1 + 1 + 1 + 1) 4 1 n 2 0 (by simp)).below (by repeat (first | assumption | exact Below.refl _ _ | refine grow_drew ?_ | refine grow_alloc ?_ _ | refine grow_trans ?_ (by assumption)))
  · exact isSs_two _ _ _ _ _ _ _ _ _ _ _ _ _ _ (by simp)
  · exact ⟨fun ad h => by first | (cases h; done) | (injection h with h; subst h; first | (simp; done) | (simp; omega)), fun ad h => by first | (cases h; done) | (injection h with h; subst h; first | (simp; done) | (simp; omega)), fun ad h => by first | (cases h; done) | (injection h with h; subst h; first | (simp; done) | (simp; omega))⟩
  · repeat (first | assumption | exact Below.refl _ _ | refine grow_drew ?_ | refine grow_alloc ?_ _ | refine grow_trans ?_ (by assumption))

set_option maxRecDepth 100000 in
set_option maxHeartbeats 1000000 in
theorem mark_at (n : Int) (w : World) : Calls Try.prog 55 #[.int .i64 n] w fun e w' => ∃ sa sc, e = .returned (.agg #[.slice none ([] : List Int).length 0, .slice none ([] : List Gd).length 0, .slice sa [sMark n].length sc]) ∧ IsTx w' none none sa [] [] [sMark n] ∧ XAt w.heap.size none none sa ∧ Below w.heap.size w w' := by
  go_enter Try.func55, Try.ntmps55
  go_wp2_with fail
  refine (lawNumber_any n _).mono ?_
  rintro e w' ⟨rfl, rfl⟩
  go_wp2_with fail
  refine (lawNumber_any 0 _).mono ?_
  rintro e w' ⟨rfl, rfl⟩
  go_wp2
  refine bodyPost_ret (v := .agg #[.slice none 0 0, .slice none 0 0, .slice (some ⟨w.heap.size + 1 + 1 + 1, 0, none⟩) 1 1]) ?_ rfl ⟨_, _, rfl, ⟨?_, ?_, ?_, by simp [maxLen], by simp [maxLen], by simp [maxLen]⟩, ?_, ?_⟩
  · simp [results, Try.results55, go_sem]
  · exact fun i hi => absurd hi (by simp)
  · exact fun i hi => absurd hi (by simp)
  · exact isSs_one _ _ _ _ _ _ _ _ (by simp)
  · exact ⟨fun ad h => by first | (cases h; done) | (injection h with h; subst h; first | (simp; done) | (simp; omega)), fun ad h => by first | (cases h; done) | (injection h with h; subst h; first | (simp; done) | (simp; omega)), fun ad h => by first | (cases h; done) | (injection h with h; subst h; first | (simp; done) | (simp; omega))⟩
  · repeat (first | assumption | exact Below.refl _ _ | refine grow_drew ?_ | refine grow_alloc ?_ _ | refine grow_trans ?_ (by assumption))

end Go.Proofs.Ytikolifbljnokaa

/-
  The statements' own begun examples of the graph (graphBegun).
  Conditions: none.
-/
namespace Go.Proofs.Ytikolifbljnokaa
open Go.RowKit

def payC (n : Int) : Core := ([0, 1], [gPay n], [s1Pay n, s2Pay n])
def noteC : Core := ([1], [], [sNote])
def markC (n : Int) : Core := ([], [], [sMark n])
/-- A transaction that says this, wherever its lists lie. -/
def mkX (c : Core) : TxA := ⟨none, none, none, 0, 0, 0, c.1, c.2.1, c.2.2⟩

theorem pay_x (n : Int) (w : World) : Calls Try.prog 53 #[.int .i64 n] w fun e w' => ∃ x : TxA, e = .returned (.agg #[.slice x.ra x.rs.length x.rc, .slice x.ga x.gs.length x.gc, .slice x.sa x.ss.length x.sc]) ∧ Hid (IsX w' x) ∧ Hid (x.core = payC n) ∧ Below w.heap.size w w' := by
  refine (pay_at n w).mono ?_
  rintro e w' ⟨ra, ga, sa, rc, gc, sc, rfl, ht, _, hb⟩
  exact ⟨⟨ra, ga, sa, rc, gc, sc, [0, 1], [gPay n], [s1Pay n, s2Pay n]⟩, rfl, ⟨ht, some_of_ints ht.r, some_of_gs ht.g, some_of_ss ht.s⟩, (rfl : _ = _), hb⟩
theorem note_x (w : World) : Calls Try.prog 54 #[] w fun e w' => ∃ x : TxA, e = .returned (.agg #[.slice x.ra x.rs.length x.rc, .slice x.ga x.gs.length x.gc, .slice x.sa x.ss.length x.sc]) ∧ Hid (IsX w' x) ∧ Hid (x.core = noteC) ∧ Below w.heap.size w w' := by
  refine (note_at w).mono ?_
  rintro e w' ⟨ra, sa, rc, sc, rfl, ht, _, hb⟩
  exact ⟨⟨ra, none, sa, rc, 0, sc, [1], [], [sNote]⟩, rfl, ⟨ht, some_of_ints ht.r, fun _ => rfl, some_of_ss ht.s⟩, (rfl : _ = _), hb⟩
theorem mark_x (n : Int) (w : World) : Calls Try.prog 55 #[.int .i64 n] w fun e w' => ∃ x : TxA, e = .returned (.agg #[.slice x.ra x.rs.length x.rc, .slice x.ga x.gs.length x.gc, .slice x.sa x.ss.length x.sc]) ∧ Hid (IsX w' x) ∧ Hid (x.core = markC n) ∧ Below w.heap.size w w' := by
  refine (mark_at n w).mono ?_
  rintro e w' ⟨sa, sc, rfl, ht, _, hb⟩
  exact ⟨⟨none, none, sa, 0, 0, sc, [], [], [sMark n]⟩, rfl, ⟨ht, fun _ => rfl, fun _ => rfl, some_of_ss ht.s⟩, (rfl : _ = _), hb⟩

/-- All that is asked of transactions hangs on what they say. -/
theorem core_parts {x y : TxA} (h : x.core = y.core) : x.rs = y.rs ∧ x.gs = y.gs ∧ x.ss = y.ss := by
  unfold TxA.core at h
  injection h with h1 h2
  injection h2 with h2 h3
  exact ⟨h1, h2, h3⟩
theorem chkX_core {x y : TxA} (h : x.core = y.core) : chkX x = chkX y := by
  obtain ⟨h1, h2, h3⟩ := core_parts h
  unfold chkX
  rw [h1, h2, h3]
theorem clashX_core {x y x' y' : TxA} (h : x.core = x'.core) (h' : y.core = y'.core) : clashX x y = clashX x' y' := by
  obtain ⟨h1, _, h3⟩ := core_parts h
  obtain ⟨k1, _, k3⟩ := core_parts h'
  unfold clashX clashTo clashAt rdX wrX
  rw [h1, h3, k1, k3]
theorem clE_core {x y x' y' : TxA} (h : x.core = x'.core) (h' : y.core = y'.core) : clE x y = clE x' y' := by
  unfold clE
  rw [chkX_core h, chkX_core h']
theorem clB_core {x y x' y' : TxA} (h : x.core = x'.core) (h' : y.core = y'.core) : clB x y = clB x' y' := by
  unfold clB
  rw [clE_core h h', clashX_core h h']
theorem len_core {l m : List TxA} (h : l.map TxA.core = m.map TxA.core) : l.length = m.length := by
  have := congrArg List.length h
  simpa using this
theorem chkL_core {l m : List TxA} (h : l.map TxA.core = m.map TxA.core) : chkL l = chkL m := by
  have e : l.map chkX = m.map chkX := by
    refine List.ext_getElem? fun i => ?_
    have hi := congrArg (·[i]?) h
    simp only [List.getElem?_map] at hi ⊢
    cases h1 : l[i]? <;> cases h2 : m[i]? <;> simp_all
    exact chkX_core hi
  unfold chkL
  rw [e, len_core h]
theorem edgesIn_core {l m : List TxA} (h : l.map TxA.core = m.map TxA.core) (i : Nat) : ∀ k, edgesIn l i k = edgesIn m i k
  | 0 => rfl
  | k + 1 => by rw [edgesIn, edgesIn, edgesIn_core h i k, clashX_core (core_at h i) (core_at h k) (x := gX l i) (y := gX l k)]; rfl
theorem edgesTo_core {l m : List TxA} (h : l.map TxA.core = m.map TxA.core) : ∀ k, edgesTo l k = edgesTo m k
  | 0 => rfl
  | k + 1 => by rw [edgesTo, edgesTo, edgesTo_core h k, len_core h, edgesIn_core h k]
theorem edE_core {l m : List TxA} (h : l.map TxA.core = m.map TxA.core) : edE l = edE m := by
  unfold edE edgesL
  rw [chkL_core h, len_core h, edgesTo_core h]
theorem swE_core {l m : List TxA} (h : l.map TxA.core = m.map TxA.core) (n : Int) : swE l n = swE m n := by
  unfold swE
  rw [chkL_core h, len_core h, clashX_core (core_at h n.toNat) (core_at h (n.toNat + 1)) (x := gX l n.toNat) (y := gX l (n.toNat + 1))]
  rfl
theorem swL_core {l m : List TxA} (h : l.map TxA.core = m.map TxA.core) (n : Int) : (swL l n).map TxA.core = (swL m n).map TxA.core := by
  unfold swL
  rw [swE_core h]
  split
  · exact swapX_core h _
  · rfl

theorem isTxs_2 (w : World) (x y : TxA) (n : Nat) (hn : n = w.heap.size) (hx : IsX w x) (hy : IsX w y) : IsTxs (w.alloc (.cells #[.slice x.ra x.rs.length x.rc, .slice x.ga x.gs.length x.gc, .slice x.sa x.ss.length x.sc, .slice y.ra y.rs.length y.rc, .slice y.ga y.gs.length y.gc, .slice y.sa y.ss.length y.sc] 26)) (some ⟨n, 0, none⟩) [x, y] := by
  subst hn
  intro i hi
  match i, hi with
  | 0, _ => exact ⟨w.heap.size, 0, rfl, by simp, by simp, by simp, by simp, hx.below (grow_alloc (Below.refl _ _) _)⟩
  | 1, _ => exact ⟨w.heap.size, 0, rfl, by simp, by simp, by simp, by simp, hy.below (grow_alloc (Below.refl _ _) _)⟩
theorem isTxs_4 (w : World) (x y z u : TxA) (n : Nat) (hn : n = w.heap.size) (hx : IsX w x) (hy : IsX w y) (hz : IsX w z) (hu : IsX w u) : IsTxs (w.alloc (.cells #[.slice x.ra x.rs.length x.rc, .slice x.ga x.gs.length x.gc, .slice x.sa x.ss.length x.sc, .slice y.ra y.rs.length y.rc, .slice y.ga y.gs.length y.gc, .slice y.sa y.ss.length y.sc, .slice z.ra z.rs.length z.rc, .slice z.ga z.gs.length z.gc, .slice z.sa z.ss.length z.sc, .slice u.ra u.rs.length u.rc, .slice u.ga u.gs.length u.gc, .slice u.sa u.ss.length u.sc] 26)) (some ⟨n, 0, none⟩) [x, y, z, u] := by
  subst hn
  intro i hi
  match i, hi with
  | 0, _ => exact ⟨w.heap.size, 0, rfl, by simp, by simp, by simp, by simp, hx.below (grow_alloc (Below.refl _ _) _)⟩
  | 1, _ => exact ⟨w.heap.size, 0, rfl, by simp, by simp, by simp, by simp, hy.below (grow_alloc (Below.refl _ _) _)⟩
  | 2, _ => exact ⟨w.heap.size, 0, rfl, by simp, by simp, by simp, by simp, hz.below (grow_alloc (Below.refl _ _) _)⟩
  | 3, _ => exact ⟨w.heap.size, 0, rfl, by simp, by simp, by simp, by simp, hu.below (grow_alloc (Below.refl _ _) _)⟩

theorem gbE1 : clE (mkX (payC 1)) (mkX noteC) = 0 := by decide
theorem gbB1 : clB (mkX (payC 1)) (mkX noteC) = true := by decide
theorem gbE2 : clE (mkX noteC) (mkX (markC 1)) = 0 := by decide
theorem gbB2 : clB (mkX noteC) (mkX (markC 1)) = false := by decide
theorem gbE3 : chkL [mkX (payC 1), mkX noteC, mkX (markC 1), mkX (payC 2)] = 0 := by decide
theorem gbL3 : edE [mkX (payC 1), mkX noteC, mkX (markC 1), mkX (payC 2)] = [(0, 1), (0, 3), (1, 3)] := by decide
theorem gbE4 : swE [mkX noteC, mkX (markC 1)] 0 = 0 := by decide
theorem gbE5 : swE [mkX (payC 1), mkX noteC] 0 = 1 := by decide

set_option maxRecDepth 100000 in
set_option maxHeartbeats 4000000 in
theorem graphBegun_any (w : World) : Calls Try.prog 18 #[] w fun e w' => e = .returned (.bool true) ∧ Below w.heap.size w w' := by
  have CC : Hid (∀ (x y : TxA) (a b : Core) (c : Int) (t : Bool) (w : World), IsX w x → IsX w y → x.core = a → y.core = b → clE (mkX a) (mkX b) = c → clB (mkX a) (mkX b) = t → Calls Try.prog 11 #[.agg #[.slice x.ra x.rs.length x.rc, .slice x.ga x.gs.length x.gc, .slice x.sa x.ss.length x.sc], .agg #[.slice y.ra y.rs.length y.rc, .slice y.ga y.gs.length y.gc, .slice y.sa y.ss.length y.sc]] w fun e w' => e = .returned (.tuple #[.bool t, .int .i64 c]) ∧ Below w.heap.size w w') := fun x y a b c t w hx hy ha hb hc ht => by
    have h := clash_any x y w hx hy
    rw [clE_core (x' := mkX a) (y' := mkX b) ha hb, clB_core (x' := mkX a) (y' := mkX b) ha hb, hc, ht] at h
    exact h
  have CE : Hid (∀ (A : Option Addr) (c : Nat) (l m : List TxA) (L : List (Nat × Nat)) (k : Nat) (w : World), IsTxs w A l → l.map TxA.core = m.map TxA.core → chkL m = 0 → edE m = L → l.length = k → Calls Try.prog 12 #[.slice A k c] w fun e w' => ∃ a c, e = .returned (.tuple #[.slice a L.length c, .int .i64 0]) ∧ Hid (IsEds w' a L) ∧ Below w.heap.size w w') := fun A c l m L k w hl hc h0 h1 hk => by
    have h := edges_any A c l w hl
    rw [edE_core hc, chkL_core hc, h0, h1, hk] at h
    exact h
  have CS : Hid (∀ (A : Option Addr) (c : Nat) (l m : List TxA) (n : Int) (E : Int) (k : Nat) (w : World), IsTxs w A l → l.map TxA.core = m.map TxA.core → swE m n = E → l.length = k → k ≤ 100 → Calls Try.prog 13 #[.slice A k c, .int .i64 n] w fun e w' => ∃ a c cl, e = .returned (.tuple #[.slice a cl.length c, .int .i64 E]) ∧ Hid (IsTxs w' a cl) ∧ Hid (cl.map TxA.core = (swL m n).map TxA.core) ∧ Below w.heap.size w w') := fun A c l m n E k w hl hc h0 hk hk' => by
    have h := swap_any A c l n w hl (by unfold maxLen; omega)
    rw [swE_core hc, h0, hk] at h
    refine h.mono ?_
    rintro e w' ⟨v, rfl, ⟨cl, hr, hcr⟩, hb⟩
    obtain ⟨a, c, rfl, hT⟩ := hr.txs
    exact ⟨a, c, cl, rfl, hT, hcr.trans (swL_core hc n), hb⟩
  go_enter Try.func18, Try.ntmps18
  go_wp2_with fail
  refine (pay_x 1 _).mono ?_
  rintro e w1 ⟨x1, rfl, hx1, cx1, bw1⟩
  go_wp2_with fail
  refine (note_x _).mono ?_
  rintro e w2 ⟨x2, rfl, hx2, cx2, bw2⟩
  go_wp2_with fail
  refine (CC.out x1 x2 _ _ _ _ _ (hx1.out.below bw2) hx2.out cx1.out cx2.out gbE1 gbB1).mono ?_
  rintro e w3 ⟨rfl, bw3⟩
  have B3 : Hid (Below w.heap.size w w3) := grow_trans bw1 (grow_trans bw2 bw3)
  clear bw1 bw2 bw3 hx1 hx2 cx1 cx2
  go_wp2_with fail
  refine (note_x _).mono ?_
  rintro e w4 ⟨x3, rfl, hx3, cx3, bw4⟩
  go_wp2_with fail
  refine (mark_x 1 _).mono ?_
  rintro e w5 ⟨x4, rfl, hx4, cx4, bw5⟩
  go_wp2_with fail
  refine (CC.out x3 x4 _ _ _ _ _ (hx3.out.below bw5) hx4.out cx3.out cx4.out gbE2 gbB2).mono ?_
  rintro e w6 ⟨rfl, bw6⟩
  have B6 : Hid (Below w.heap.size w w6) := grow_trans B3.out (grow_trans bw4 (grow_trans bw5 bw6))
  clear bw4 bw5 bw6 hx3 hx4 cx3 cx4 B3
  go_wp2_with fail
  refine (pay_x 1 _).mono ?_
  rintro e w7 ⟨x5, rfl, hx5, cx5, bw7⟩
  go_wp2_with fail
  refine (note_x _).mono ?_
  rintro e w8 ⟨x6, rfl, hx6, cx6, bw8⟩
  go_wp2_with fail
  refine (mark_x 1 _).mono ?_
  rintro e w9 ⟨x7, rfl, hx7, cx7, bw9⟩
  go_wp2_with fail
  refine (pay_x 2 _).mono ?_
  rintro e w10 ⟨x8, rfl, hx8, cx8, bw10⟩
  have hT1 : Hid (IsTxs (w10.alloc (.cells #[.slice x5.ra x5.rs.length x5.rc, .slice x5.ga x5.gs.length x5.gc, .slice x5.sa x5.ss.length x5.sc, .slice x6.ra x6.rs.length x6.rc, .slice x6.ga x6.gs.length x6.gc, .slice x6.sa x6.ss.length x6.sc, .slice x7.ra x7.rs.length x7.rc, .slice x7.ga x7.gs.length x7.gc, .slice x7.sa x7.ss.length x7.sc, .slice x8.ra x8.rs.length x8.rc, .slice x8.ga x8.gs.length x8.gc, .slice x8.sa x8.ss.length x8.sc] 26)) (some ⟨w10.heap.size, 0, none⟩) [x5, x6, x7, x8]) := isTxs_4 w10 x5 x6 x7 x8 _ rfl (hx5.out.below (grow_trans bw8 (grow_trans bw9 bw10))) (hx6.out.below (grow_trans bw9 bw10)) (hx7.out.below bw10) hx8.out
  have hC1 : Hid ([x5, x6, x7, x8].map TxA.core = [mkX (payC 1), mkX noteC, mkX (markC 1), mkX (payC 2)].map TxA.core) := by
    show [x5.core, x6.core, x7.core, x8.core] = _
    rw [cx5.out, cx6.out, cx7.out, cx8.out]
    rfl
  have B10 : Hid (Below w.heap.size w (w10.alloc (.cells #[.slice x5.ra x5.rs.length x5.rc, .slice x5.ga x5.gs.length x5.gc, .slice x5.sa x5.ss.length x5.sc, .slice x6.ra x6.rs.length x6.rc, .slice x6.ga x6.gs.length x6.gc, .slice x6.sa x6.ss.length x6.sc, .slice x7.ra x7.rs.length x7.rc, .slice x7.ga x7.gs.length x7.gc, .slice x7.sa x7.ss.length x7.sc, .slice x8.ra x8.rs.length x8.rc, .slice x8.ga x8.gs.length x8.gc, .slice x8.sa x8.ss.length x8.sc] 26))) := grow_alloc (grow_trans B6.out (grow_trans bw7 (grow_trans bw8 (grow_trans bw9 bw10)))) _
  clear bw7 bw8 bw9 bw10 hx5 hx6 hx7 hx8 cx5 cx6 cx7 cx8 B6
  go_wp2_with fail
  refine (CE.out (some ⟨w10.heap.size, 0, none⟩) 4 [x5, x6, x7, x8] _ _ 4 _ hT1.out hC1.out gbE3 gbL3 rfl).mono ?_
  rintro e w11 ⟨ea, ec, rfl, hE11, bw11⟩
  have B11 : Hid (Below w.heap.size w w11) := grow_trans B10.out bw11
  clear bw11 B10 hT1 hC1
  go_wp2_with fail
  refine (note_x _).mono ?_
  rintro e w12 ⟨x9, rfl, hx9, cx9, bw12⟩
  go_wp2_with fail
  refine (mark_x 1 _).mono ?_
  rintro e w13 ⟨y1, rfl, hy1, cy1, bw13⟩
  have hT2 : Hid (IsTxs (w13.alloc (.cells #[.slice x9.ra x9.rs.length x9.rc, .slice x9.ga x9.gs.length x9.gc, .slice x9.sa x9.ss.length x9.sc, .slice y1.ra y1.rs.length y1.rc, .slice y1.ga y1.gs.length y1.gc, .slice y1.sa y1.ss.length y1.sc] 26)) (some ⟨w13.heap.size, 0, none⟩) [x9, y1]) := isTxs_2 w13 x9 y1 _ rfl (hx9.out.below bw13) hy1.out
  have hC2 : Hid ([x9, y1].map TxA.core = [mkX noteC, mkX (markC 1)].map TxA.core) := by
    show [x9.core, y1.core] = _
    rw [cx9.out, cy1.out]
    rfl
  have D13 : Hid (Below w11.heap.size w11 (w13.alloc (.cells #[.slice x9.ra x9.rs.length x9.rc, .slice x9.ga x9.gs.length x9.gc, .slice x9.sa x9.ss.length x9.sc, .slice y1.ra y1.rs.length y1.rc, .slice y1.ga y1.gs.length y1.gc, .slice y1.sa y1.ss.length y1.sc] 26))) := grow_alloc (grow_trans bw12 bw13) _
  clear bw12 bw13 hx9 hy1 cx9 cy1
  go_wp2_with fail
  refine (CS.out (some ⟨w13.heap.size, 0, none⟩) 2 [x9, y1] _ 0 _ 2 _ hT2.out hC2.out gbE4 rfl (by omega)).mono ?_
  rintro e w14 ⟨sa, sc, cl, rfl, hT14, hC14, bw14⟩
  have D14 : Hid (Below w11.heap.size w11 w14) := grow_trans D13.out bw14
  clear bw14 D13 hT2 hC2
  go_wp2_with fail
  refine (pay_x 1 _).mono ?_
  rintro e w15 ⟨y2, rfl, hy2, cy2, bw15⟩
  go_wp2_with fail
  refine (note_x _).mono ?_
  rintro e w16 ⟨y3, rfl, hy3, cy3, bw16⟩
  have hT3 : Hid (IsTxs (w16.alloc (.cells #[.slice y2.ra y2.rs.length y2.rc, .slice y2.ga y2.gs.length y2.gc, .slice y2.sa y2.ss.length y2.sc, .slice y3.ra y3.rs.length y3.rc, .slice y3.ga y3.gs.length y3.gc, .slice y3.sa y3.ss.length y3.sc] 26)) (some ⟨w16.heap.size, 0, none⟩) [y2, y3]) := isTxs_2 w16 y2 y3 _ rfl (hy2.out.below bw16) hy3.out
  have hC3 : Hid ([y2, y3].map TxA.core = [mkX (payC 1), mkX noteC].map TxA.core) := by
    show [y2.core, y3.core] = _
    rw [cy2.out, cy3.out]
    rfl
  have D16 : Hid (Below w14.heap.size w14 (w16.alloc (.cells #[.slice y2.ra y2.rs.length y2.rc, .slice y2.ga y2.gs.length y2.gc, .slice y2.sa y2.ss.length y2.sc, .slice y3.ra y3.rs.length y3.rc, .slice y3.ga y3.gs.length y3.gc, .slice y3.sa y3.ss.length y3.sc] 26))) := grow_alloc (grow_trans bw15 bw16) _
  clear bw15 bw16 hy2 hy3 cy2 cy3
  go_wp2_with fail
  refine (CS.out (some ⟨w16.heap.size, 0, none⟩) 2 [y2, y3] _ 0 _ 2 _ hT3.out hC3.out gbE5 rfl (by omega)).mono ?_
  rintro e w17 ⟨sa', sc', cl', rfl, _, _, bw17⟩
  have D17 : Hid (Below w14.heap.size w14 w17) := grow_trans D16.out bw17
  have hT17 : Hid (IsTxs w17 sa cl) := hT14.out.below D17.out
  have hE17 : Hid (IsEds w17 ea [(0, 1), (0, 3), (1, 3)]) := hE11.out.below (grow_trans D14.out D17.out)
  have B17 : Hid (Below w.heap.size w w17) := grow_trans B11.out (grow_trans D14.out D17.out)
  clear bw17 D16 D17 D14 hT3 hC3 hT14 hE11 B11
  obtain ⟨b, off, rfl, _, k0, k1⟩ := hE17.out 0 (by simp)
  obtain ⟨b', off', hbe, _, k2, k3⟩ := hE17.out 1 (by simp)
  obtain ⟨b2, off2, hbe2, _, k4, k5⟩ := hE17.out 2 (by simp)
  injection hbe with hbe
  injection hbe with r1 r2 _
  injection hbe2 with hbe2
  injection hbe2 with r3 r4 _
  subst r1 r2 r3 r4
  simp at k0 k1 k2 k3 k4 k5
  clear hE17
  go_wp2_with fail
  refine (mark_x 1 _).mono ?_
  rintro e w18 ⟨z1, rfl, hz1, cz1, bw18⟩
  clear k0 k1 k2 k3 k4 k5
  go_wp2_with fail
  refine (note_x _).mono ?_
  rintro e w19 ⟨z2, rfl, hz2, cz2, bw19⟩
  have hT4 : Hid (IsTxs (w19.alloc (.cells #[.slice z1.ra z1.rs.length z1.rc, .slice z1.ga z1.gs.length z1.gc, .slice z1.sa z1.ss.length z1.sc, .slice z2.ra z2.rs.length z2.rc, .slice z2.ga z2.gs.length z2.gc, .slice z2.sa z2.ss.length z2.sc] 26)) (some ⟨w19.heap.size, 0, none⟩) [z1, z2]) := isTxs_2 w19 z1 z2 _ rfl (hz1.out.below bw19) hz2.out
  have D19 : Hid (Below w17.heap.size w17 (w19.alloc (.cells #[.slice z1.ra z1.rs.length z1.rc, .slice z1.ga z1.gs.length z1.gc, .slice z1.sa z1.ss.length z1.sc, .slice z2.ra z2.rs.length z2.rc, .slice z2.ga z2.gs.length z2.gc, .slice z2.sa z2.ss.length z2.sc] 26))) := grow_alloc (grow_trans bw18 bw19) _
  have hC4 : Hid (cl.map TxA.core = [z1, z2].map TxA.core) := by
    show _ = [z1.core, z2.core]
    rw [hC14.out, cz1.out, cz2.out]
    rfl
  have SM : Hid (∀ x ∈ cl, x.rs.length ≤ 100 ∧ x.gs.length ≤ 100 ∧ x.ss.length ≤ 100) := fun x hx => by
    have hm : x.core ∈ [markC 1, noteC] := by
      have h := hC14.out
      have h' : (swL [mkX noteC, mkX (markC 1)] 0).map TxA.core = [markC 1, noteC] := rfl
      rw [← h', ← h]
      exact List.mem_map.2 ⟨x, hx, rfl⟩
    simp only [List.mem_cons, List.not_mem_nil, or_false, TxA.core, markC, noteC, Prod.mk.injEq] at hm
    rcases hm with ⟨h1, h2, h3⟩ | ⟨h1, h2, h3⟩ <;> (rw [h1, h2, h3]; simp)
  have hl2 : Hid (cl.length = 2) := by
    have h := congrArg List.length hC4.out
    show _ = _
    simpa using h
  have hT18 : Hid (IsTxs (w19.alloc (.cells #[.slice z1.ra z1.rs.length z1.rc, .slice z1.ga z1.gs.length z1.gc, .slice z1.sa z1.ss.length z1.sc, .slice z2.ra z2.rs.length z2.rc, .slice z2.ga z2.gs.length z2.gc, .slice z2.sa z2.ss.length z2.sc] 26)) sa cl) := hT17.out.below D19.out
  have B19 : Hid (Below w.heap.size w (w19.alloc (.cells #[.slice z1.ra z1.rs.length z1.rc, .slice z1.ga z1.gs.length z1.gc, .slice z1.sa z1.ss.length z1.sc, .slice z2.ra z2.rs.length z2.rc, .slice z2.ga z2.gs.length z2.gc, .slice z2.sa z2.ss.length z2.sc] 26))) := grow_trans B17.out D19.out
  have SS : Hid (Calls Try.prog 20 #[.slice sa cl.length sc, .slice (some ⟨w19.heap.size, 0, none⟩) 2 2] (w19.alloc (.cells #[.slice z1.ra z1.rs.length z1.rc, .slice z1.ga z1.gs.length z1.gc, .slice z1.sa z1.ss.length z1.sc, .slice z2.ra z2.rs.length z2.rc, .slice z2.ga z2.gs.length z2.gc, .slice z2.sa z2.ss.length z2.sc] 26)) fun e w' => e = .returned (.bool true) ∧ Below w.heap.size w w') := by
    refine (sameTxns_eq cl [z1, z2] sa (some ⟨w19.heap.size, 0, none⟩) sc 2 _ hC4.out (by have := hl2.out; omega) SM.out hT18.out hT4.out).mono ?_
    rintro e w' ⟨h1, h2⟩
    exact ⟨h1, grow_trans B19.out h2⟩
  clear bw18 bw19 hz1 hz2 cz1 cz2 hT4 D19 hC4 SM hT18 hT17 B17 B19 hC14
  go_wp2_with fail
  refine SS.out.mono ?_
  clear SS
  rintro e w20 ⟨rfl, bw20⟩
  have B20 : Hid (Below w.heap.size w w20) := bw20
  clear bw20
  go_wp2
  go_ret
  exact ⟨rfl, B20.out⟩
end Go.Proofs.Ytikolifbljnokaa
