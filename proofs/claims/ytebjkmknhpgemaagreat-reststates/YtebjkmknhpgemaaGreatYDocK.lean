/-
  
  Conditions: those that each theorem states.
-/
import Derived.Test.YtebjkmknhpgemaaGreatYDocJ
import Derived.Test.YtebjkmknhpgemaaGreatYDocD
import Derived.Test.YtebjkmknhpgemaaGreatYHallG
import Derived.Test.YtebjkmknhpgemaaGreatYDocF
import Derived.WalkKit
import Derived.WalkSpells
import Derived.WalkLawsBesides
import Derived.Defers
import Derived.Recover
import Derived.ProofKit
import Derived.Deep.RegionHeld
import Derived.Deep.RegionHeld3
import Derived.Deep.RegionLaw
import Derived.Deep.DeepCutAuto
import Derived.Deep.QuietTactic
import Derived.BigQuiet
import Derived.Maps.AppendAt
import Derived.Lib.SliceRun
import Derived.Deep.AppendLies
namespace Go.Proofs.YtebjkmknhpgemaaGreat
open Go.RowKit
variable (la : Option Addr) (lc : Nat) (l : List TxA) (sa ra wa va : Option Addr) (sc rc tc vc : Nat) (S : SA)
set_option maxRecDepth 100000 in
set_option maxHeartbeats 8000000 in
/-- The document's DoOf, of a state that is not right, or a step that is none. -/
theorem docDo_none (m kd n k : Int) (w : World) (hl : IsTxs w la l) (hs : Sta w sa ra wa va S) (E : Int)
    (hE : (¬ stE m l S = 0 ∧ E = stE m l S) ∨ (stE m l S = 0 ∧ ¬ kd = 1 ∧ ¬ kd = 2 ∧ E = 4) ∨ (stE m l S = 0 ∧ (kd = 1 ∨ kd = 2) ∧ E = 5 ∧ (n < 0 ∨ (l.length : Int) ≤ n ∨ (0 ≤ n ∧ n < (l.length : Int) ∧ (k < 0 ∨ m ≤ k))))) :
    Calls Tryz.prog 27 #[.agg #[.int .i64 m, .slice la l.length lc], .agg #[.slice sa S.st.length sc, .slice ra S.rd.length rc, .slice wa S.wr.length tc, .slice va S.vs.length vc], .agg #[.int .i64 kd, .int .i64 n, .int .i64 k]] w fun e w' => ∃ q : Q4, e = .returned (.tuple #[.agg #[.slice q.sa q.sn q.sc, .slice q.ra q.rn q.rc, .slice q.wa q.wn q.tc, .slice q.va q.vn q.vc], .int .i64 E]) ∧ StaF w.heap.size SNil q w' ∧ Below w.heap.size w w' := by
  obtain ⟨W, hWe⟩ : ∃ W : World, W = ((((w.alloc (.cells #[.int .i64 m, .slice la l.length lc] 24)).alloc (.cells #[.slice sa S.st.length sc, .slice ra S.rd.length rc, .slice wa S.wr.length tc, .slice va S.vs.length vc] 29)).alloc (.cells #[.int .i64 kd, .int .i64 n, .int .i64 k] 48)).alloc (.cells #[.slice none 0 0, .slice none 0 0, .slice none 0 0, .slice none 0 0] 29)) := ⟨_, rfl⟩
  have hW : Hid (Below w.heap.size w W) := by subst hWe; exact (grow_alloc (grow_alloc (grow_alloc (grow_alloc (Below.refl _ _) _) _) _) _)
  have sz : Hid (W.heap.size = w.heap.size + 4) := by subst hWe; show _ = _; simp
  have p0 : W.cell? ⟨w.heap.size, 0, none⟩ = some (.int .i64 m) := by subst hWe; exact ext_cell (grow_alloc (grow_alloc (grow_alloc (Below.refl _ _) _) _) _) (at_new _ _ 24 _ 0 _ (by first | rfl | simp) rfl)
  have p1 : W.cell? ⟨w.heap.size, 1, none⟩ = some (.slice la l.length lc) := by subst hWe; exact ext_cell (grow_alloc (grow_alloc (grow_alloc (Below.refl _ _) _) _) _) (at_new _ _ 24 _ 1 _ (by first | rfl | simp) rfl)
  have q0 : W.cell? ⟨w.heap.size + 1, 0, none⟩ = some (.slice sa S.st.length sc) := by subst hWe; exact ext_cell (grow_alloc (grow_alloc (Below.refl _ _) _) _) (at_new _ _ 29 _ 0 _ (by first | rfl | simp) rfl)
  have q1 : W.cell? ⟨w.heap.size + 1, 1, none⟩ = some (.slice ra S.rd.length rc) := by subst hWe; exact ext_cell (grow_alloc (grow_alloc (Below.refl _ _) _) _) (at_new _ _ 29 _ 1 _ (by first | rfl | simp) rfl)
  have q2 : W.cell? ⟨w.heap.size + 1, 2, none⟩ = some (.slice wa S.wr.length tc) := by subst hWe; exact ext_cell (grow_alloc (grow_alloc (Below.refl _ _) _) _) (at_new _ _ 29 _ 2 _ (by first | rfl | simp) rfl)
  have q3 : W.cell? ⟨w.heap.size + 1, 3, none⟩ = some (.slice va S.vs.length vc) := by subst hWe; exact ext_cell (grow_alloc (grow_alloc (Below.refl _ _) _) _) (at_new _ _ 29 _ 3 _ (by first | rfl | simp) rfl)
  have r0 : W.cell? ⟨w.heap.size + 2, 0, none⟩ = some (.int .i64 kd) := by subst hWe; exact ext_cell (grow_alloc (Below.refl _ _) _) (at_new _ _ 48 _ 0 _ (by first | rfl | simp) rfl)
  have r1 : W.cell? ⟨w.heap.size + 2, 1, none⟩ = some (.int .i64 n) := by subst hWe; exact ext_cell (grow_alloc (Below.refl _ _) _) (at_new _ _ 48 _ 1 _ (by first | rfl | simp) rfl)
  have r2 : W.cell? ⟨w.heap.size + 2, 2, none⟩ = some (.int .i64 k) := by subst hWe; exact ext_cell (grow_alloc (Below.refl _ _) _) (at_new _ _ 48 _ 2 _ (by first | rfl | simp) rfl)
  have s0 : W.cell? ⟨w.heap.size + 3, 0, none⟩ = some (.slice none 0 0) := by subst hWe; exact ext_cell (Below.refl _ _) (at_new _ _ 29 _ 0 _ (by first | rfl | simp) rfl)
  have s1 : W.cell? ⟨w.heap.size + 3, 1, none⟩ = some (.slice none 0 0) := by subst hWe; exact ext_cell (Below.refl _ _) (at_new _ _ 29 _ 1 _ (by first | rfl | simp) rfl)
  have s2 : W.cell? ⟨w.heap.size + 3, 2, none⟩ = some (.slice none 0 0) := by subst hWe; exact ext_cell (Below.refl _ _) (at_new _ _ 29 _ 2 _ (by first | rfl | simp) rfl)
  have s3 : W.cell? ⟨w.heap.size + 3, 3, none⟩ = some (.slice none 0 0) := by subst hWe; exact ext_cell (Below.refl _ _) (at_new _ _ 29 _ 3 _ (by first | rfl | simp) rfl)
  have SF : Hid (∀ j, W.frozen? ⟨w.heap.size + 3, j, none⟩ = false) := by subst hWe; exact fun j => frozen_new _ _ 29 _ j (by simp)
  have KEEP : Hid (∀ w', Below W.heap.size W w' → w'.cell? ⟨w.heap.size, 0, none⟩ = some (.int .i64 m) ∧ w'.cell? ⟨w.heap.size, 1, none⟩ = some (.slice la l.length lc) ∧ w'.cell? ⟨w.heap.size + 1, 0, none⟩ = some (.slice sa S.st.length sc) ∧ w'.cell? ⟨w.heap.size + 1, 1, none⟩ = some (.slice ra S.rd.length rc) ∧ w'.cell? ⟨w.heap.size + 1, 2, none⟩ = some (.slice wa S.wr.length tc) ∧ w'.cell? ⟨w.heap.size + 1, 3, none⟩ = some (.slice va S.vs.length vc) ∧ w'.cell? ⟨w.heap.size + 2, 0, none⟩ = some (.int .i64 kd) ∧ w'.cell? ⟨w.heap.size + 2, 1, none⟩ = some (.int .i64 n) ∧ w'.cell? ⟨w.heap.size + 2, 2, none⟩ = some (.int .i64 k) ∧ w'.cell? ⟨w.heap.size + 3, 0, none⟩ = some (.slice none 0 0) ∧ w'.cell? ⟨w.heap.size + 3, 1, none⟩ = some (.slice none 0 0) ∧ w'.cell? ⟨w.heap.size + 3, 2, none⟩ = some (.slice none 0 0) ∧ w'.cell? ⟨w.heap.size + 3, 3, none⟩ = some (.slice none 0 0)) := fun w' hb => ⟨ext_cell hb p0, ext_cell hb p1, ext_cell hb q0, ext_cell hb q1, ext_cell hb q2, ext_cell hb q3, ext_cell hb r0, ext_cell hb r1, ext_cell hb r2, ext_cell hb s0, ext_cell hb s1, ext_cell hb s2, ext_cell hb s3⟩
  have CK : Hid (Calls Tryz.prog 19 #[.agg #[.int .i64 m, .slice la l.length lc], .agg #[.slice sa S.st.length sc, .slice ra S.rd.length rc, .slice wa S.wr.length tc, .slice va S.vs.length vc]] W fun e w' => e = .returned (.int .i64 (stE m l S)) ∧ Below W.heap.size W w') := docCheck_any la lc l sa ra wa va sc rc tc vc S m W (hl.below hW.out) (hs.below hW.out)
  have HL : Hid (IsTxs W la l) := hl.below hW.out
  have HS : Hid (Sta W sa ra wa va S) := hs.below hW.out
  have hl8 : stE m l S = 0 → l.length ≤ 8 ∧ 1 ≤ m ∧ m ≤ 4 := fun h => by
    obtain ⟨sh, rfl, h1, h4, hc, _⟩ := stE_zero h
    exact ⟨chkL_len hc, by omega, by omega⟩
  clear hl hs HL HS p0 p1 q0 q1 q2 q3 r0 r1 r2 s0 s1 s2 s3
  generalize stE m l S = X at *
  have HWe : Hid (W = _) := hWe
  clear hWe
  go_enter Tryz.func27, Tryz.ntmps27
  go_upto_region 1 with fail
  rw [← HWe.out]
  clear HWe
  obtain ⟨p0, p1, q0, q1, q2, q3, r0, r1, r2, s0, s1, s2, s3⟩ := KEEP.out W (Below.refl _ _)
  go_wp2_with fail
  refine CK.out.mono ?_
  rintro e V ⟨rfl, hbV⟩
  have BV : Hid (Below W.heap.size W V) := hbV
  clear CK hbV p0 p1 q0 q1 q2 q3 r0 r1 r2 s0 s1 s2 s3
  obtain ⟨p0, p1, q0, q1, q2, q3, r0, r1, r2, s0, s1, s2, s3⟩ := KEEP.out V BV.out
  rcases hE with ⟨hX, rfl⟩ | ⟨rfl, h1, h2, rfl⟩ | ⟨rfl, hkd, rfl, hrng⟩
  · have hb : (E != 0) = true := by simpa using hX
    have sf : ∀ j, V.frozen? ⟨w.heap.size + 3, j, none⟩ = false := fun j => (BV.out.frozen (p := ⟨w.heap.size + 3, j, none⟩) (by have := sz.out; show w.heap.size + 3 < _; omega)).trans (SF.out j)
    obtain ⟨x0, x1, x2, x3⟩ := put4 qNil s0 s1 s2 s3
    dsimp only [qNil] at x0 x1 x2 x3
    have FB : Hid (Below w.heap.size w ((((V.setCell ⟨w.heap.size + 3, 0, none⟩ (.slice qNil.sa qNil.sn qNil.sc)).setCell ⟨w.heap.size + 3, 1, none⟩ (.slice qNil.ra qNil.rn qNil.rc)).setCell ⟨w.heap.size + 3, 2, none⟩ (.slice qNil.wa qNil.wn qNil.tc)).setCell ⟨w.heap.size + 3, 3, none⟩ (.slice qNil.va qNil.vn qNil.vc))) := grow_set (grow_set (grow_set (grow_set (grow_trans hW.out BV.out) (by simp) _) (by simp) _) (by simp) _) (by simp) _
    clear BV
    clear hX hl8
    go_wp2_with fail
    refine bodyPost_ret (v := .tuple #[.agg #[.slice none 0 0, .slice none 0 0, .slice none 0 0, .slice none 0 0], .int .i64 E]) (by simp [results, Tryz.results27, go_sem, x0, x1, x2, x3]) rfl ⟨qNil, rfl, staF_nil _ _, FB.out⟩
  · have hb1 : (kd != 1) = true := by simpa using h1
    have hb2 : (kd != 2) = true := by simpa using h2
    have sf : ∀ j, V.frozen? ⟨w.heap.size + 3, j, none⟩ = false := fun j => (BV.out.frozen (p := ⟨w.heap.size + 3, j, none⟩) (by have := sz.out; show w.heap.size + 3 < _; omega)).trans (SF.out j)
    obtain ⟨x0, x1, x2, x3⟩ := put4 qNil s0 s1 s2 s3
    dsimp only [qNil] at x0 x1 x2 x3
    have FB : Hid (Below w.heap.size w ((((V.setCell ⟨w.heap.size + 3, 0, none⟩ (.slice qNil.sa qNil.sn qNil.sc)).setCell ⟨w.heap.size + 3, 1, none⟩ (.slice qNil.ra qNil.rn qNil.rc)).setCell ⟨w.heap.size + 3, 2, none⟩ (.slice qNil.wa qNil.wn qNil.tc)).setCell ⟨w.heap.size + 3, 3, none⟩ (.slice qNil.va qNil.vn qNil.vc))) := grow_set (grow_set (grow_set (grow_set (grow_trans hW.out BV.out) (by simp) _) (by simp) _) (by simp) _) (by simp) _
    clear BV
    clear h1 h2 hl8
    go_wp2_with fail
    refine bodyPost_ret (v := .tuple #[.agg #[.slice none 0 0, .slice none 0 0, .slice none 0 0, .slice none 0 0], .int .i64 4]) (by simp [results, Tryz.results27, go_sem, x0, x1, x2, x3]) rfl ⟨qNil, rfl, staF_nil _ _, FB.out⟩
  · obtain ⟨hl8, hm1, hm4⟩ := hl8 rfl
    have sf : ∀ j, V.frozen? ⟨w.heap.size + 3, j, none⟩ = false := fun j => (BV.out.frozen (p := ⟨w.heap.size + 3, j, none⟩) (by have := sz.out; show w.heap.size + 3 < _; omega)).trans (SF.out j)
    obtain ⟨x0, x1, x2, x3⟩ := put4 qNil s0 s1 s2 s3
    dsimp only [qNil] at x0 x1 x2 x3
    have FB : Hid (Below w.heap.size w ((((V.setCell ⟨w.heap.size + 3, 0, none⟩ (.slice qNil.sa qNil.sn qNil.sc)).setCell ⟨w.heap.size + 3, 1, none⟩ (.slice qNil.ra qNil.rn qNil.rc)).setCell ⟨w.heap.size + 3, 2, none⟩ (.slice qNil.wa qNil.wn qNil.tc)).setCell ⟨w.heap.size + 3, 3, none⟩ (.slice qNil.va qNil.vn qNil.vc))) := grow_set (grow_set (grow_set (grow_set (grow_trans hW.out BV.out) (by simp) _) (by simp) _) (by simp) _) (by simp) _
    clear BV
    have hwa : ∀ (a b c : Int) w, Calls Tryz.prog 51 #[.int .i64 a, .int .i64 b, .int .i64 c] w fun e w' => e = .returned (.bool (decide (b ≤ a) && decide (a ≤ c))) ∧ w' = w := within_any
    rcases hrng with hn | hn | ⟨hn0, hn1, hk⟩
    · have d1 : (decide ((0 : Int) ≤ n) && decide (n ≤ (l.length : Int) - 1)) = false := by simp; omega
      rcases hkd with rfl | rfl
      all_goals (
        go_wp2_with (first | (go_at_call 51; refine (hwa _ _ _ _).mono ?_; rintro e w5 ⟨rfl, e5⟩; have e6 := e5.symm; subst e6))
        refine bodyPost_ret (v := .tuple #[.agg #[.slice none 0 0, .slice none 0 0, .slice none 0 0, .slice none 0 0], .int .i64 5]) (by simp [results, Tryz.results27, go_sem, x0, x1, x2, x3]) rfl ⟨qNil, rfl, staF_nil _ _, FB.out⟩
      )
    · have d1 : (decide ((0 : Int) ≤ n) && decide (n ≤ (l.length : Int) - 1)) = false := by simp; omega
      rcases hkd with rfl | rfl
      all_goals (
        go_wp2_with (first | (go_at_call 51; refine (hwa _ _ _ _).mono ?_; rintro e w5 ⟨rfl, e5⟩; have e6 := e5.symm; subst e6))
        refine bodyPost_ret (v := .tuple #[.agg #[.slice none 0 0, .slice none 0 0, .slice none 0 0, .slice none 0 0], .int .i64 5]) (by simp [results, Tryz.results27, go_sem, x0, x1, x2, x3]) rfl ⟨qNil, rfl, staF_nil _ _, FB.out⟩
      )
    · have d1 : (decide ((0 : Int) ≤ n) && decide (n ≤ (l.length : Int) - 1)) = true := by simp; omega
      have d2 : (decide ((0 : Int) ≤ k) && decide (k ≤ m - 1)) = false := by simp; omega
      rcases hkd with rfl | rfl
      all_goals (
        go_wp2_with (first | (go_at_call 51; refine (hwa _ _ _ _).mono ?_; rintro e w5 ⟨rfl, e5⟩; have e6 := e5.symm; subst e6))
        refine bodyPost_ret (v := .tuple #[.agg #[.slice none 0 0, .slice none 0 0, .slice none 0 0, .slice none 0 0], .int .i64 5]) (by simp [results, Tryz.results27, go_sem, x0, x1, x2, x3]) rfl ⟨qNil, rfl, staF_nil _ _, FB.out⟩
      )
end Go.Proofs.YtebjkmknhpgemaaGreat
