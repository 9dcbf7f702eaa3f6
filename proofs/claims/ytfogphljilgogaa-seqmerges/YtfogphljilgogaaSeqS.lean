/-
  The document's own Merge and From.
  Conditions: the batches can be read; none is long, if the count is not.
-/
import Derived.Test.YtfogphljilgogaaSeqR
import Derived.Test.YtfogphljilgogaaPlaceA
import Derived.WalkKit
import Derived.WalkSpells
import Derived.WalkLawsBesides
import Derived.ProofKit
import Derived.Deep.RegionHeld3
import Derived.BigQuiet
namespace Go.Proofs.Ytfogphljilgogaa
open Go.RowKit

variable (qa : Option Addr) (qc : Nat) (ss : List StA) (n : Int)

theorem merged_any (w : World) (hS : IsSt w qa ss) (hsl : ss.length ≤ maxLen) (hF : Few ss) :
    Calls Try.prog 64 #[.slice qa ss.length qc] w fun e w' => ∃ v u, e = .returned (.tuple #[v, u, .int .i64 (chkS ss)]) ∧ Two w.heap.size w' v u (mrg ss) (tagsOf ss) ∧ Below w.heap.size w w' := by
  cases hT : tooManyV ss with
  | false => exact merged_few qa qc ss w hS hsl hT hF
  | true =>
    have e1 : chkS ss = 2 := by simp [chkS, hT]
    have e2 : mrg ss = [] := if_neg (by rw [e1]; decide)
    have e3 : tagsOf ss = [] := if_neg (by rw [e1]; decide)
    rw [e1, e2, e3]
    refine (merged_many qa qc ss w hS hsl hT).mono ?_
    rintro e w' ⟨rfl, hb⟩
    exact ⟨_, _, rfl, two_nil _ _, hb⟩

theorem mrg_isX {w w' : World} (hS : IsSt w qa ss) (hb : Below w.heap.size w w') : ∀ x ∈ mrg ss, IsX w' x := by
  intro x hx
  unfold mrg at hx
  split at hx
  · obtain ⟨e, he, hx⟩ := List.mem_flatMap.1 hx
    obtain ⟨k, hk, _, h2, h3, _⟩ := evs_mem he
    obtain ⟨_, _, _, _, _, hbs, _⟩ := hS k hk
    obtain ⟨_, _, _, _, _, htx, _⟩ := hbs e.e h2
    rw [← h3] at htx
    obtain ⟨i, hi, rfl⟩ := List.mem_iff_getElem.1 hx
    obtain ⟨_, _, _, _, _, _, _, h⟩ := htx i hi
    have eg : e.b.l.getD i x0 = e.b.l[i] := by simp [List.getD, hi]
    rw [eg] at h
    exact h.below hb
  · cases hx

set_option maxRecDepth 100000 in
theorem mergeOf_any (w : World) (hS : IsSt w qa ss) (hsl : ss.length ≤ maxLen) (hF : Few ss) :
    Calls Try.prog 34 #[.slice qa ss.length qc] w fun e w' => ∃ a c, e = .returned (.tuple #[.slice a (mrg ss).length c, .int .i64 (chkS ss)]) ∧ IsTxs w' a (mrg ss) ∧ Below w.heap.size w w' := by
  have CM : Hid (Calls Try.prog 64 #[.slice qa ss.length qc] w fun e w' => ∃ a c u, e = .returned (.tuple #[.slice a (mrg ss).length c, u, .int .i64 (chkS ss)]) ∧ IsTxs w' a (mrg ss) ∧ Below w.heap.size w w') := by
    refine (merged_any qa qc ss w hS hsl hF).mono ?_
    rintro e w' ⟨v, u, rfl, h2, hb⟩
    obtain ⟨a, c, rfl, htx⟩ := txs_of_owns h2.x (mrg_isX qa ss hS hb)
    exact ⟨a, c, u, rfl, htx, hb⟩
  generalize chkS ss = E at *
  generalize mrg ss = L at *
  clear hS hF
  go_enter Try.func34, Try.ntmps34
  go_wp2_with fail
  refine CM.out.mono ?_
  rintro e w1 ⟨a, c, u, rfl, htx, hb⟩
  have HTX : Hid (IsTxs w1 a L) := htx
  clear htx CM
  go_wp2
  go_ret2
  exact ⟨a, c, rfl, HTX.out, hb⟩

/-- A row of tags that can be read. -/
def IsTgs (w : World) (a : Option Addr) (T : List Tg) : Prop := ∀ i, i < T.length → ∃ b off, a = some ⟨b, off, none⟩ ∧ w.cell? ⟨b, off + i * 3, none⟩ = some (.int .i64 (T.getD i (0, 0, 0)).1) ∧ w.cell? ⟨b, off + i * 3 + 1, none⟩ = some (.int .i64 (T.getD i (0, 0, 0)).2.1) ∧ w.cell? ⟨b, off + i * 3 + 2, none⟩ = some (.int .i64 (T.getD i (0, 0, 0)).2.2)
theorem tgs_of_owns {w : World} {base : Nat} {v : Value} {n : Nat} {l : List Tg} (h : w.ownsRow base 110 3 v n (flatT l)) : ∃ a cap, v = .slice a l.length cap ∧ IsTgs w a l := by
  have hn : l.length = n := by have := h.1; rw [flatT_len] at this; omega
  rcases h.2 with ⟨rfl, h0⟩ | ⟨g, cap, cur, rfl, hb, hg, hnc, hcm, hcs, htake⟩
  · refine ⟨none, 0, by rw [hn, h0], fun i hi => ?_⟩
    omega
  · refine ⟨some ⟨g, 0, none⟩, cap, by rw [hn], fun i hi => ?_⟩
    have hc := fun (j : Nat) (hj : j < 3) (u : Value) (hu : (tcells (l.getD i (0, 0, 0)))[j]? = some u) => h.cells (g := g) rfl (i * 3 + j) u ((flatT_at l i j hi hj).trans hu)
    simp only [add_none, Nat.zero_add] at hc
    refine ⟨g, 0, rfl, ?_, ?_, ?_⟩
    · simpa using hc 0 (by omega) _ rfl
    · simpa using hc 1 (by omega) _ rfl
    · simpa using hc 2 (by omega) _ rfl
theorem tagsOf_len {ss : List StA} (hF : Few ss) : (tagsOf ss).length ≤ 144 := by
  unfold tagsOf
  split
  · rename_i hE
    have h1 := evs_len ss (chkS_three hE)
    have h2 := mergedX_few (evs ss) (fun x hx => hF (chkS_zero hE).1 _ (evs_allB hx))
    rw [tagsX_len]
    omega
  · simp
/-- Of each, where it comes from. -/
theorem frm_tag {ss : List StA} (hE : chkS ss = 0) (k : Nat) (hk : k < (tagsOf ss).length) : fromS (frmO ss k) = ((tagsOf ss).getD k (0, 0, 0)).1 ∧ fromE (frmO ss k) = ((tagsOf ss).getD k (0, 0, 0)).2.1 ∧ fromK (frmO ss k) = ((tagsOf ss).getD k (0, 0, 0)).2.2 ∧ frmR ss k = 0 := by
  have e0 : tagsOf ss = tagsX (evs ss) := if_pos hE
  rw [e0] at hk ⊢
  rw [tagsX_len] at hk
  have e1 : fromO ss k = seek (evs ss) k := if_neg (by omega)
  have e2 : frmO ss k = seek (evs ss) k := by rw [frmO, if_pos hE, e1]
  have e3 : frmR ss k = fromR (seek (evs ss) k) := by rw [frmR, if_pos hE, e1]
  rw [e2, e3, tags_seek _ _ hk]
  exact ⟨rfl, rfl, rfl, rfl⟩
theorem frm_none {ss : List StA} (hE : chkS ss = 0) (n : Int) (hn : n < 0 ∨ ((tagsOf ss).length : Int) ≤ n) : frmO ss n = none ∧ frmR ss n = 5 := by
  have e0 : tagsOf ss = tagsX (evs ss) := if_pos hE
  rw [e0, tagsX_len] at hn
  have e1 : fromO ss n = none := by
    unfold fromO
    split
    · rfl
    · exact seek_none _ _ (by omega)
  rw [frmO, if_pos hE, frmR, if_pos hE, e1]
  exact ⟨rfl, rfl⟩

set_option maxRecDepth 100000 in
set_option maxHeartbeats 1000000 in
theorem fromOf_any (w : World) (hS : IsSt w qa ss) (hsl : ss.length ≤ maxLen) (hF : Few ss) :
    Calls Try.prog 35 #[.slice qa ss.length qc, .int .i64 n] w fun e w' => e = .returned (.tuple #[.int .i64 (fromS (frmO ss n)), .int .i64 (fromE (frmO ss n)), .int .i64 (fromK (frmO ss n)), .int .i64 (frmR ss n)]) ∧ Below w.heap.size w w' := by
  have CM : Hid (Calls Try.prog 64 #[.slice qa ss.length qc] w fun e w' => ∃ v a c, e = .returned (.tuple #[v, .slice a (tagsOf ss).length c, .int .i64 (chkS ss)]) ∧ IsTgs w' a (tagsOf ss) ∧ Below w.heap.size w w') := by
    refine (merged_any qa qc ss w hS hsl hF).mono ?_
    rintro e w' ⟨v, u, rfl, h2, hb⟩
    obtain ⟨a, c, rfl, htx⟩ := tgs_of_owns h2.t
    exact ⟨v, a, c, rfl, htx, hb⟩
  have hl := tagsOf_len hF
  by_cases hE : chkS ss = 0
  · by_cases hn : 0 ≤ n ∧ n ≤ ((tagsOf ss).length : Int) - 1
    · obtain ⟨hn0, hn1⟩ := hn
      obtain ⟨k, rfl⟩ := Int.eq_ofNat_of_zero_le hn0
      have hk : k < (tagsOf ss).length := by omega
      obtain ⟨r1, r2, r3, r4⟩ := frm_tag hE k hk
      rw [r1, r2, r3, r4]
      rw [hE] at CM
      clear hS hF hE r1 r2 r3 r4
      generalize tagsOf ss = T at *
      have hwi : (decide ((0 : Int) ≤ k) && decide ((k : Int) ≤ (T.length : Int) - 1)) = true := by simp; omega
      have hk' : (k : Int) < (T.length : Int) := by omega
      generalize hT : T.getD k (0, 0, 0) = t at *
      obtain ⟨t0, t1, t2⟩ := t
      have HT : Hid (T.getD k (0, 0, 0) = (t0, t1, t2)) := hT
      clear hT
      go_enter Try.func35, Try.ntmps35
      go_wp2_with fail
      refine CM.out.mono ?_
      rintro e w1 ⟨v, a, c, rfl, htx, hb⟩
      obtain ⟨b, off, rfl, c0, c1, c2⟩ := htx k hk
      rw [HT.out] at c0 c1 c2
      simp only at c0 c1 c2
      have HB : Hid (Below w.heap.size w w1) := hb
      clear CM htx hb
      go_wp2_with fail
      refine (within_any _ _ _ _).mono ?_
      rintro e w2 ⟨rfl, rfl⟩
      rw [hwi]
      go_wp2_with fail
      go_quiet (fail)
      go_wp2
      refine bodyPost_ret (v := .tuple #[.int .i64 t0, .int .i64 t1, .int .i64 t2, .int .i64 0]) ?_ rfl ⟨rfl, grow_trans HB.out (below_drewN (Below.refl _ _) _)⟩
      simp [results, Try.results35, go_sem]
    · obtain ⟨r1, r2⟩ := frm_none hE n (by omega)
      rw [r1, r2]
      rw [hE] at CM
      clear hS hF hE r1 r2
      generalize tagsOf ss = T at *
      have hwi : (decide ((0 : Int) ≤ n) && decide (n ≤ (T.length : Int) - 1)) = false := by
        cases h : (decide ((0 : Int) ≤ n) && decide (n ≤ (T.length : Int) - 1)) with
        | false => rfl
        | true =>
          simp only [Bool.and_eq_true, decide_eq_true_eq] at h
          exact absurd h hn
      clear hn
      go_enter Try.func35, Try.ntmps35
      go_wp2_with fail
      refine CM.out.mono ?_
      rintro e w1 ⟨v, a, c, rfl, _, hb⟩
      have HB : Hid (Below w.heap.size w w1) := hb
      clear CM hb
      go_wp2_with fail
      refine (within_any _ _ _ _).mono ?_
      rintro e w2 ⟨rfl, rfl⟩
      rw [hwi]
      go_wp2
      refine bodyPost_ret (v := .tuple #[.int .i64 0, .int .i64 0, .int .i64 0, .int .i64 5]) ?_ rfl ⟨rfl, HB.out⟩
      simp [results, Try.results35, go_sem]
  · have e1 : frmO ss n = none := if_neg hE
    have e2 : frmR ss n = chkS ss := if_neg hE
    rw [e1, e2]
    clear hS hF e1 e2
    generalize chkS ss = E at *
    generalize tagsOf ss = T at *
    have hne : (E != 0) = true := by simpa using hE
    clear hE
    go_enter Try.func35, Try.ntmps35
    go_wp2_with fail
    refine CM.out.mono ?_
    rintro e w1 ⟨v, a, c, rfl, _, hb⟩
    have HB : Hid (Below w.heap.size w w1) := hb
    clear CM hb
    go_wp2
    refine bodyPost_ret (v := .tuple #[.int .i64 0, .int .i64 0, .int .i64 0, .int .i64 E]) ?_ rfl ⟨rfl, HB.out⟩
    simp [results, Try.results35, go_sem]
end Go.Proofs.Ytfogphljilgogaa
