/-
  What vals.Check and the document's CheckOperand, ReckonOf and HoldsOf answer, for every argument.
  Conditions: an int lies in its range.
-/
import Derived.Test.YtcgpkonfneofdaaVals0
import Derived.WalkKit
import Derived.WalkSpells
import Derived.WalkLawsBesides
import Derived.Defers
import Derived.Recover
import Derived.ProofKit
import Derived.Laws.Pointers
import Derived.Deep.RegionHeld3
import Derived.Deep.QuietTactic
import Derived.BigQuiet
import Derived.Maps.OwnSet
namespace Go.Proofs.Ytcgpkonfneofdaa
open Go.RowKit

theorem reckonOf_any (op a b : Int) (w : World) :
    Calls Try.prog 115 #[.int .i64 op, .int .i64 a, .int .i64 b] w fun e' w' => e' = .returned (.tuple #[.int .i64 (reckV op a b), .int .i64 (reckE op)]) ∧ w' = w := by
  by_cases h1 : op = 1
  · subst h1
    have hv : reckV 1 a b = a := by simp [reckV]
    have he : reckE 1 = 0 := by simp [reckE]
    rw [hv, he]
    clear hv he

    go_enter Try.func115, Try.ntmps115
    go_wp2
    all_goals go_ret2
    all_goals exact ⟨rfl, rfl⟩
  by_cases h2 : op = 2
  · subst h2
    have hv : reckV 2 a b = wrap64 (a + b) := by simp [reckV]
    have he : reckE 2 = 0 := by simp [reckE]
    rw [hv, he]
    clear hv he h1

    go_enter Try.func115, Try.ntmps115
    go_wp2
    all_goals go_ret2
    all_goals exact ⟨rfl, rfl⟩
  by_cases h3 : op = 3
  · subst h3
    have hv : reckV 3 a b = wrap64 (a - b) := by simp [reckV]
    have he : reckE 3 = 0 := by simp [reckE]
    rw [hv, he]
    clear hv he h1 h2

    go_enter Try.func115, Try.ntmps115
    go_wp2
    all_goals go_ret2
    all_goals exact ⟨rfl, rfl⟩
  by_cases h4 : op = 4
  · subst h4
    have hv : reckV 4 a b = wrap64 (a * b) := by simp [reckV]
    have he : reckE 4 = 0 := by simp [reckE]
    rw [hv, he]
    clear hv he h1 h2 h3

    go_enter Try.func115, Try.ntmps115
    go_wp2
    all_goals go_ret2
    all_goals exact ⟨rfl, rfl⟩
  by_cases h5 : op = 5
  · subst h5
    have hv : reckV 5 a b = lesser a b := by simp [reckV]
    have he : reckE 5 = 0 := by simp [reckE]
    rw [hv, he]
    clear hv he h1 h2 h3 h4
    unfold lesser
    go_enter Try.func115, Try.ntmps115
    go_wp2
    all_goals go_ret2
    all_goals exact ⟨rfl, rfl⟩
  by_cases h6 : op = 6
  · subst h6
    have hv : reckV 6 a b = greater a b := by simp [reckV]
    have he : reckE 6 = 0 := by simp [reckE]
    rw [hv, he]
    clear hv he h1 h2 h3 h4 h5
    unfold greater
    go_enter Try.func115, Try.ntmps115
    go_wp2
    all_goals go_ret2
    all_goals exact ⟨rfl, rfl⟩
  · have hv : reckV op a b = 0 := by simp [reckV, h1, h2, h3, h4, h5, h6]
    have he : reckE op = 4 := by unfold reckE; rw [if_neg (by omega)]
    rw [hv, he]
    clear hv he
    have b1 : (op == 1) = false := by simpa using h1
    have b2 : (op == 2) = false := by simpa using h2
    have b3 : (op == 3) = false := by simpa using h3
    have b4 : (op == 4) = false := by simpa using h4
    have b5 : (op == 5) = false := by simpa using h5
    have b6 : (op == 6) = false := by simpa using h6
    clear h1 h2 h3 h4 h5 h6
    go_enter Try.func115, Try.ntmps115
    go_wp2
    go_ret2
    exact ⟨rfl, rfl⟩

theorem holdsOf_any (op a b : Int) (w : World) :
    Calls Try.prog 113 #[.int .i64 op, .int .i64 a, .int .i64 b] w fun e' w' => e' = .returned (.tuple #[.bool (holdV op a b), .int .i64 (holdE op)]) ∧ w' = w := by
  by_cases h1 : op = 1
  · subst h1
    have hv : holdV 1 a b = (a == b) := by simp [holdV]
    have he : holdE 1 = 0 := by simp [holdE]
    rw [hv, he]
    clear hv he
    go_enter Try.func113, Try.ntmps113
    go_wp2
    all_goals go_ret2
    all_goals exact ⟨rfl, rfl⟩
  by_cases h2 : op = 2
  · subst h2
    have hv : holdV 2 a b = (a != b) := by simp [holdV]
    have he : holdE 2 = 0 := by simp [holdE]
    rw [hv, he]
    clear hv he h1
    go_enter Try.func113, Try.ntmps113
    go_wp2
    all_goals go_ret2
    all_goals exact ⟨rfl, rfl⟩
  by_cases h3 : op = 3
  · subst h3
    have hv : holdV 3 a b = decide (a < b) := by simp [holdV]
    have he : holdE 3 = 0 := by simp [holdE]
    rw [hv, he]
    clear hv he h1 h2
    go_enter Try.func113, Try.ntmps113
    go_wp2
    all_goals go_ret2
    all_goals exact ⟨rfl, rfl⟩
  by_cases h4 : op = 4
  · subst h4
    have hv : holdV 4 a b = decide (a ≤ b) := by simp [holdV]
    have he : holdE 4 = 0 := by simp [holdE]
    rw [hv, he]
    clear hv he h1 h2 h3
    go_enter Try.func113, Try.ntmps113
    go_wp2
    all_goals go_ret2
    all_goals exact ⟨rfl, rfl⟩
  · have hv : holdV op a b = false := by simp [holdV, h1, h2, h3, h4]
    have he : holdE op = 4 := by unfold holdE; rw [if_neg (by omega)]
    rw [hv, he]
    clear hv he
    have b1 : (op == 1) = false := by simpa using h1
    have b2 : (op == 2) = false := by simpa using h2
    have b3 : (op == 3) = false := by simpa using h3
    have b4 : (op == 4) = false := by simpa using h4
    clear h1 h2 h3 h4
    go_enter Try.func113, Try.ntmps113
    go_wp2
    go_ret2
    exact ⟨rfl, rfl⟩

/-- What the document says of an operand (its kind, its number) beside so many reads. -/
def chkV (k n reads : Int) : Int := if reads < 0 ∨ 4 < reads then 3 else if k = 1 then 0 else if ¬ k = 2 then 4 else if n < 0 ∨ reads ≤ n then 3 else 0


theorem check_any (k n reads : Int) (w : World) (hr : (Lit.int .i64 reads).wf = true) :
    Calls Try.prog 102 #[.agg #[.int .i64 k, .int .i64 n], .int .i64 reads] w fun e' w' => e' = .returned (.int .i64 (chkV k n reads)) ∧ w' = w.alloc (.cells #[.int .i64 k, .int .i64 n] 45) := by
  have hr1 : reads ≤ 9223372036854775807 := by have h := hr; simp only [Lit.wf, Bool.and_eq_true, decide_eq_true_eq] at h; exact h.2
  have hr0 : -9223372036854775808 ≤ reads := by have h := hr; simp only [Lit.wf, Bool.and_eq_true, decide_eq_true_eq] at h; exact h.1
  clear hr
  by_cases h1 : reads < 0
  · have hv : chkV k n reads = 3 := by unfold chkV; rw [if_pos (by omega)]
    rw [hv]
    clear hv
    go_enter Try.func102, Try.ntmps102
    go_wp2
    go_ret
    exact ⟨rfl, rfl⟩
  by_cases h2 : 4 < reads
  · have hv : chkV k n reads = 3 := by unfold chkV; rw [if_pos (by omega)]
    rw [hv]
    clear hv
    go_enter Try.func102, Try.ntmps102
    go_wp2
    go_ret
    exact ⟨rfl, rfl⟩
  by_cases h3 : k = 1
  · subst h3
    have hv : chkV 1 n reads = 0 := by unfold chkV; rw [if_neg (by omega), if_pos rfl]
    rw [hv]
    clear hv
    go_enter Try.func102, Try.ntmps102
    go_wp2
    go_ret
    exact ⟨rfl, rfl⟩
  have b3 : (k == 1) = false := by simpa using h3
  have c3 : (k != 1) = true := by simpa using h3
  by_cases h4 : k = 2
  · subst h4
    clear h3 b3 c3
    by_cases h5 : n < 0
    · have hv : chkV 2 n reads = 3 := by unfold chkV; rw [if_neg (by omega), if_neg (by omega), if_neg (by omega), if_pos (by omega)]
      rw [hv]
      clear hv
      go_enter Try.func102, Try.ntmps102
      go_wp2
      go_ret
      exact ⟨rfl, rfl⟩
    by_cases h6 : reads ≤ n
    · have hv : chkV 2 n reads = 3 := by unfold chkV; rw [if_neg (by omega), if_neg (by omega), if_neg (by omega), if_pos (by omega)]
      rw [hv]
      clear hv
      go_enter Try.func102, Try.ntmps102
      go_wp2
      go_ret
      exact ⟨rfl, rfl⟩
    have hv : chkV 2 n reads = 0 := by unfold chkV; rw [if_neg (by omega), if_neg (by omega), if_neg (by omega), if_neg (by omega)]
    rw [hv]
    clear hv
    go_enter Try.func102, Try.ntmps102
    go_wp2
    go_ret
    exact ⟨rfl, rfl⟩
  · have b4 : (k == 2) = false := by simpa using h4
    have c4 : (k != 2) = true := by simpa using h4
    have hv : chkV k n reads = 4 := by unfold chkV; rw [if_neg (by omega), if_neg h3, if_pos h4]
    rw [hv]
    clear hv h3 h4
    go_enter Try.func102, Try.ntmps102
    go_wp2
    go_ret
    exact ⟨rfl, rfl⟩

theorem checkOperand_any (k n reads : Int) (w : World) (hr : (Lit.int .i64 reads).wf = true) :
    Calls Try.prog 114 #[.agg #[.int .i64 k, .int .i64 n], .int .i64 reads] w fun e' w' => e' = .returned (.int .i64 (chkV k n reads)) ∧ w' = w.alloc (.cells #[.int .i64 k, .int .i64 n] 45) := by
  have hr1 : reads ≤ 9223372036854775807 := by have h := hr; simp only [Lit.wf, Bool.and_eq_true, decide_eq_true_eq] at h; exact h.2
  have hr0 : -9223372036854775808 ≤ reads := by have h := hr; simp only [Lit.wf, Bool.and_eq_true, decide_eq_true_eq] at h; exact h.1
  clear hr
  by_cases h1 : reads < 0
  · have hv : chkV k n reads = 3 := by unfold chkV; rw [if_pos (by omega)]
    rw [hv]
    clear hv
    have d0 : decide (0 ≤ reads) = false := by simp; omega
    go_enter Try.func114, Try.ntmps114
    go_wp2
    go_ret
    exact ⟨rfl, rfl⟩
  by_cases h2 : 4 < reads
  · have hv : chkV k n reads = 3 := by unfold chkV; rw [if_pos (by omega)]
    rw [hv]
    clear hv
    have d0 : decide (0 ≤ reads) = true := by simp; omega
    have d1 : decide (reads ≤ 4) = false := by simp; omega
    go_enter Try.func114, Try.ntmps114
    go_wp2
    go_ret
    exact ⟨rfl, rfl⟩
  by_cases h3 : k = 1
  · subst h3
    have hv : chkV 1 n reads = 0 := by unfold chkV; rw [if_neg (by omega), if_pos rfl]
    rw [hv]
    clear hv
    have d0 : decide (0 ≤ reads) = true := by simp; omega
    have d1 : decide (reads ≤ 4) = true := by simp; omega
    go_enter Try.func114, Try.ntmps114
    go_wp2
    go_ret
    exact ⟨rfl, rfl⟩
  have b3 : (k == 1) = false := by simpa using h3
  have c3 : (k != 1) = true := by simpa using h3
  by_cases h4 : k = 2
  · subst h4
    clear h3 b3 c3
    by_cases h5 : n < 0
    · have hv : chkV 2 n reads = 3 := by unfold chkV; rw [if_neg (by omega), if_neg (by omega), if_neg (by omega), if_pos (by omega)]
      rw [hv]
      clear hv
      have d0 : decide (0 ≤ reads) = true := by simp; omega
      have d1 : decide (reads ≤ 4) = true := by simp; omega
      have d2 : decide (0 ≤ n) = false := by simp; omega
      go_enter Try.func114, Try.ntmps114
      go_wp2
      go_ret
      exact ⟨rfl, rfl⟩
    by_cases h6 : reads ≤ n
    · have hv : chkV 2 n reads = 3 := by unfold chkV; rw [if_neg (by omega), if_neg (by omega), if_neg (by omega), if_pos (by omega)]
      rw [hv]
      clear hv
      have d0 : decide (0 ≤ reads) = true := by simp; omega
      have d1 : decide (reads ≤ 4) = true := by simp; omega
      have d2 : decide (0 ≤ n) = true := by simp; omega
      have d3 : decide (n ≤ reads - 1) = false := by simp; omega
      go_enter Try.func114, Try.ntmps114
      go_wp2
      go_ret
      exact ⟨rfl, rfl⟩
    have hv : chkV 2 n reads = 0 := by unfold chkV; rw [if_neg (by omega), if_neg (by omega), if_neg (by omega), if_neg (by omega)]
    rw [hv]
    clear hv
    have d0 : decide (0 ≤ reads) = true := by simp; omega
    have d1 : decide (reads ≤ 4) = true := by simp; omega
    have d2 : decide (0 ≤ n) = true := by simp; omega
    have d3 : decide (n ≤ reads - 1) = true := by simp; omega
    go_enter Try.func114, Try.ntmps114
    go_wp2
    go_ret
    exact ⟨rfl, rfl⟩
  · have b4 : (k == 2) = false := by simpa using h4
    have c4 : (k != 2) = true := by simpa using h4
    have hv : chkV k n reads = 4 := by unfold chkV; rw [if_neg (by omega), if_neg h3, if_pos h4]
    rw [hv]
    clear hv h3 h4
    have d0 : decide (0 ≤ reads) = true := by simp; omega
    have d1 : decide (reads ≤ 4) = true := by simp; omega
    go_enter Try.func114, Try.ntmps114
    go_wp2
    go_ret
    exact ⟨rfl, rfl⟩

end Go.Proofs.Ytcgpkonfneofdaa
