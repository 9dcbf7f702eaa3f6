/-
  seq.From where there is an error; what Merge and From tell, all told.
  Conditions: the batches can be read.
-/
import Derived.Test.YtfogphljilgogaaSeqH
import Derived.WalkKit
import Derived.WalkSpells
import Derived.WalkLawsBesides
import Derived.ProofKit
import Derived.Deep.RegionHeld3
import Derived.BigQuiet
namespace Go.Proofs.Ytfogphljilgogaa
open Go.RowKit

variable (qa : Option Addr) (qc : Nat) (ss : List StA) (n : Int)

set_option maxRecDepth 100000 in
set_option maxHeartbeats 2000000 in
theorem from_bad (w : World) (hS : IsSt w qa ss) (hsl : ss.length ≤ maxLen) (hE : ¬ chkS ss = 0) :
    Calls Try.prog 33 #[.slice qa ss.length qc, .int .i64 n] w fun e w' => e = .returned (.tuple #[.int .i64 0, .int .i64 0, .int .i64 0, .int .i64 (chkS ss)]) ∧ Below w.heap.size w w' := by
  have CC : Hid (∀ w', IsSt w' qa ss → Calls Try.prog 61 #[.slice qa ss.length qc] w' fun e w'' => e = .returned (.int .i64 (chkS ss)) ∧ Below w'.heap.size w' w'') := fun w' h => seqCheck_any qa qc ss w' h hsl
  generalize chkS ss = E at *
  have hne : (E != 0) = true := by simpa using hE
  have HS : Hid (IsSt (five w n) qa ss) := hS.below (five_below w n)
  have HF : Hid (Five w.heap.size (five w n) n 0 0 0 0) := five_is w n
  have HFB : Hid (Below w.heap.size w (five w n)) := five_below w n
  clear hS hE
  go_enter Try.func33, Try.ntmps33
  go_wp2_with fail
  refine (CC.out _ HS.out).mono ?_
  rintro e w1 ⟨rfl, hb1⟩
  have HF1 := HF.out.below hb1
  have HF2 : Hid (Five w.heap.size (tell w.heap.size w1 0 0 0 E) n 0 0 0 E) := HF1.tell 0 0 0 E
  have B1 : Hid (Below w.heap.size w (tell w.heap.size w1 0 0 0 E)) := (grow_trans HFB.out hb1).trans (tell_below (Nat.le_refl _) _ _ _ _)
  obtain ⟨k0, g0, k1, g1, k2, g2, k3, g3, k4, g4⟩ := HF1
  clear hb1
  go_wp2
  obtain ⟨_, _, c1, _, c2, _, c3, _, c4, _⟩ := HF2.out
  refine bodyPost_ret (v := .tuple #[.int .i64 0, .int .i64 0, .int .i64 0, .int .i64 E]) ?_ rfl ⟨rfl, B1.out⟩
  simp [results, Try.results33, go_sem, c1, c2, c3, c4]

set_option maxRecDepth 100000 in
set_option maxHeartbeats 2000000 in
theorem from_neg (w : World) (hS : IsSt w qa ss) (hsl : ss.length ≤ maxLen) (hE : chkS ss = 0) (hn : n < 0) :
    Calls Try.prog 33 #[.slice qa ss.length qc, .int .i64 n] w fun e w' => e = .returned (.tuple #[.int .i64 0, .int .i64 0, .int .i64 0, .int .i64 5]) ∧ Below w.heap.size w w' := by
  have CC : Hid (∀ w', IsSt w' qa ss → Calls Try.prog 61 #[.slice qa ss.length qc] w' fun e w'' => e = .returned (.int .i64 0) ∧ Below w'.heap.size w' w'') := fun w' h => by
    have h := seqCheck_any qa qc ss w' h hsl
    rw [hE] at h
    exact h
  have HS : Hid (IsSt (five w n) qa ss) := hS.below (five_below w n)
  have HF : Hid (Five w.heap.size (five w n) n 0 0 0 0) := five_is w n
  have HFB : Hid (Below w.heap.size w (five w n)) := five_below w n
  clear hS hE
  go_enter Try.func33, Try.ntmps33
  go_wp2_with fail
  refine (CC.out _ HS.out).mono ?_
  rintro e w1 ⟨rfl, hb1⟩
  have HF1 := HF.out.below hb1
  have HF2 : Hid (Five w.heap.size (tell w.heap.size w1 0 0 0 5) n 0 0 0 5) := HF1.tell 0 0 0 5
  have B1 : Hid (Below w.heap.size w (tell w.heap.size w1 0 0 0 5)) := (grow_trans HFB.out hb1).trans (tell_below (Nat.le_refl _) _ _ _ _)
  obtain ⟨k0, g0, k1, g1, k2, g2, k3, g3, k4, g4⟩ := HF1
  clear hb1
  go_wp2
  obtain ⟨_, _, c1, _, c2, _, c3, _, c4, _⟩ := HF2.out
  refine bodyPost_ret (v := .tuple #[.int .i64 0, .int .i64 0, .int .i64 0, .int .i64 5]) ?_ rfl ⟨rfl, B1.out⟩
  simp [results, Try.results33, go_sem, c1, c2, c3, c4]

/-- What Merge and From tell. -/
def mrg (ss : List StA) : List TxA := if chkS ss = 0 then mergedX (evs ss) else []
def frmO (ss : List StA) (n : Int) : Option (Nat × Nat × Int) := if chkS ss = 0 then fromO ss n else none
def frmR (ss : List StA) (n : Int) : Int := if chkS ss = 0 then fromR (fromO ss n) else chkS ss

theorem evs_mem {ss : List StA} {x : EvA} (h : x ∈ evs ss) : ∃ k, k < ss.length ∧ x.s = k ∧ x.e < (ss.getD k st0).bs.length ∧ x.b = (ss.getD k st0).bs.getD x.e b0 ∧ x.e < 6 := by
  have hr : ∀ e k, x ∈ rowTo ss e k → ∃ j, j < k ∧ x.s = j ∧ x.e < (ss.getD j st0).bs.length ∧ x.b = (ss.getD j st0).bs.getD x.e b0 ∧ x.e = e := fun e k => by
    induction k with
    | zero => intro h; cases h
    | succ k ih =>
      intro h
      rw [rowTo, List.mem_append] at h
      rcases h with h | h
      · obtain ⟨j, h1, h2⟩ := ih h
        exact ⟨j, by omega, h2⟩
      · by_cases c : e < (ss.getD k st0).bs.length
        · rw [if_pos c] at h
          simp only [List.mem_singleton] at h
          subst h
          exact ⟨k, by omega, rfl, c, rfl, rfl⟩
        · rw [if_neg c] at h; cases h
  have he : ∀ e, x ∈ epTo ss e → ∃ j, j < ss.length ∧ x.s = j ∧ x.e < (ss.getD j st0).bs.length ∧ x.b = (ss.getD j st0).bs.getD x.e b0 ∧ x.e < e := fun e => by
    induction e with
    | zero => intro h; cases h
    | succ e ih =>
      intro h
      rw [epTo, List.mem_append] at h
      rcases h with h | h
      · obtain ⟨j, h1, h2, h3, h4, h5⟩ := ih h
        exact ⟨j, h1, h2, h3, h4, by omega⟩
      · obtain ⟨j, h1, h2, h3, h4, h5⟩ := hr e _ h
        exact ⟨j, h1, h2, h3, h4, by omega⟩
  exact he 6 h
theorem evs_allB {ss : List StA} {x : EvA} (h : x ∈ evs ss) : x.b ∈ allB ss := by
  obtain ⟨k, hk, _, h2, h3, _⟩ := evs_mem h
  have hm : ss.getD k st0 ∈ ss := by simp [List.getD, hk]
  rw [h3]
  unfold allB
  generalize ss.getD k st0 = s at *
  exact List.mem_flatMap.2 ⟨s, hm, by simp [List.getD, h2]⟩
theorem chkS_three {ss : List StA} (h : chkS ss = 0) : ss.length ≤ 3 := by
  have h1 := (chkS_zero h).1
  unfold tooManyV at h1
  simp only [Bool.or_eq_false_iff, decide_eq_false_iff_not] at h1
  omega

theorem merge_any (w : World) (hS : IsSt w qa ss) (hsl : ss.length ≤ maxLen) :
    Calls Try.prog 32 #[.slice qa ss.length qc] w fun e w' => ∃ a c cl, e = .returned (.tuple #[.slice a cl.length c, .int .i64 (chkS ss)]) ∧ IsTxs w' a cl ∧ cl.map TxA.core = (mrg ss).map TxA.core ∧ cl.length ≤ c ∧ (a = none → c = 0) ∧ Below w.heap.size w w' := by
  by_cases hE : chkS ss = 0
  · have e1 : mrg ss = mergedX (evs ss) := if_pos hE
    rw [e1, hE]
    refine (merge_ok qa qc ss w hS hsl hE (chkS_three hE) (fun e he => (chkS_zero hE).2 _ (evs_allB he))).mono ?_
    rintro e w' ⟨v, cl, rfl, hrow, hcore, hb⟩
    obtain ⟨a, cap, rfl, htx⟩ := hrow.txs
    refine ⟨a, cap, cl, rfl, htx, hcore, ?_, (owns_in hrow.1).2, hb⟩
    rcases hrow.1.2 with ⟨he, h0⟩ | ⟨g, c', cur, he, _, _, hnc, _⟩
    · omega
    · injection he with q1 q2 q3
      omega
  · have e1 : mrg ss = [] := if_neg hE
    rw [e1]
    exact (merge_bad qa qc ss w hS hsl hE).mono fun e w' ⟨h1, h2⟩ => ⟨none, 0, [], h1, fun i hi => absurd hi (by simp), rfl, Nat.le_refl _, fun _ => rfl, h2⟩

theorem from_any (w : World) (hS : IsSt w qa ss) (hsl : ss.length ≤ maxLen) (hnw : n ≤ 9223372036854775807) :
    Calls Try.prog 33 #[.slice qa ss.length qc, .int .i64 n] w fun e w' => e = .returned (.tuple #[.int .i64 (fromS (frmO ss n)), .int .i64 (fromE (frmO ss n)), .int .i64 (fromK (frmO ss n)), .int .i64 (frmR ss n)]) ∧ Below w.heap.size w w' := by
  by_cases hE : chkS ss = 0
  · have e1 : frmO ss n = fromO ss n := if_pos hE
    have e2 : frmR ss n = fromR (fromO ss n) := if_pos hE
    rw [e1, e2]
    by_cases hn : n < 0
    · have e3 : fromO ss n = none := if_pos hn
      rw [e3]
      exact from_neg qa qc ss n w hS hsl hE hn
    · have e3 : fromO ss n = seek (evs ss) n := if_neg hn
      rw [e3]
      exact from_ok qa qc ss n w hS hsl hE (by omega) hnw (fun e he => (chkS_zero hE).2 _ (evs_allB he))
  · have e1 : frmO ss n = none := if_neg hE
    have e2 : frmR ss n = chkS ss := if_neg hE
    rw [e1, e2]
    exact from_bad qa qc ss n w hS hsl hE
end Go.Proofs.Ytfogphljilgogaa
