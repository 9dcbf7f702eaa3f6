/-
  The rest of a transaction's check: guard by guard, set by set, the first error.
  Conditions: the transaction can be read.
-/
import Derived.Test.YtcgpkonfneofdaaTxnC
import Derived.WalkKit
import Derived.WalkSpells
import Derived.WalkLawsBesides
import Derived.Defers
import Derived.Recover
import Derived.ProofKit
import Derived.Deep.RegionHeld
import Derived.Deep.RegionHeld3
import Derived.BigQuiet
namespace Go.Proofs.Ytcgpkonfneofdaa
open Go.RowKit

/-- A guard's errors, and a set's, beside so many reads. -/
def gErr (n : Nat) (g : Gd) : Int := firstNZ [holdE g.k, chkV g.ak g.an n, chkV g.bk g.bn n]
def sErr (n : Nat) (s : St) : Int := firstNZ [reckE s.op, chkV s.ak s.an n, chkV s.bk s.bn n]

set_option maxRecDepth 100000 in
theorem firstNZ_step {α : Type} (f : α → Int) (l : List α) (d : α) (k : Nat) (h : k < l.length) : firstNZ ((l.map f).drop k) = if f (l.getD k d) = 0 then firstNZ ((l.map f).drop (k + 1)) else f (l.getD k d) := by
  rw [drop_get (l.map f) k 0 (by simpa using h)]
  have e : (l.map f).getD k 0 = f (l.getD k d) := by simp [List.getD, h]
  rw [e]
  rfl

set_option maxRecDepth 100000 in
theorem ext5 {W w' : World} {p1 p2 p3 p4 p5 : Addr} {v1 v2 v3 v4 v5 : Value} (hb : Below W.heap.size W w') (q1 : W.cell? p1 = some v1) (q2 : W.cell? p2 = some v2) (q3 : W.cell? p3 = some v3) (q4 : W.cell? p4 = some v4) (q5 : W.cell? p5 = some v5) :
    Below W.heap.size W w' ∧ w'.cell? p1 = some v1 ∧ w'.cell? p2 = some v2 ∧ w'.cell? p3 = some v3 ∧ w'.cell? p4 = some v4 ∧ w'.cell? p5 = some v5 := ⟨hb, ext_cell hb q1, ext_cell hb q2, ext_cell hb q3, ext_cell hb q4, ext_cell hb q5⟩

variable (ra ga sa : Option Addr) (rc gc sc : Nat) (rs : List Int) (gs : List Gd) (ss : List St)

set_option maxRecDepth 100000 in
set_option maxHeartbeats 2000000 in
theorem checkGuards_any (w : World) (ht : IsTx w ra ga sa rs gs ss) :
    Calls Try.prog 80 #[.agg #[.slice ra rs.length rc, .slice ga gs.length gc, .slice sa ss.length sc]] w fun e w' => ((firstNZ (gs.map (gErr rs.length)) = 0 ∧ e = .returned (.tuple #[])) ∨ (¬ firstNZ (gs.map (gErr rs.length)) = 0 ∧ e = .panicked [{ v := .iface 25 (.int .i64 (firstNZ (gs.map (gErr rs.length)))), recovered := false }])) ∧ Below w.heap.size w w' := by
  have hwr : Hid ((Lit.int .i64 (rs.length : Int)).wf = true) := WalkArith.wf_i64 (by have := ht.lr; unfold maxLen at this; omega)
  obtain ⟨_, hz, _, _, hl, _⟩ := ht
  unfold maxLen at hl
  go_enter Try.func80, Try.ntmps80
  go_wp2
  go_loopw [3, 4, 5, 9] (fun _ _ _ i wr => ∃ k : Nat, k ≤ gs.length ∧ i = .int .i64 k ∧ Hid (firstNZ (gs.map (gErr rs.length)) = firstNZ ((gs.map (gErr rs.length)).drop k)) ∧ Below (w.heap.size + 1) (w.alloc (.cells #[.slice ra rs.length rc, .slice ga gs.length gc, .slice sa ss.length sc] 38)) wr) (fun _ _ _ i _ => gs.length - (intOf i).toNat)
  case atStart => exact ⟨0, Nat.zero_le _, rfl, rfl, Below.refl _ _⟩
  case round =>
    obtain ⟨k', hk, rfl, hno, hnx⟩ := hrel
    have hsz : w.heap.size + 1 ≤ wr.heap.size := by have := hnx.size; simpa using this
    have hnx' : Below w.heap.size w wr := (grow_alloc (Below.refl _ _) _).trans (hnx.mono (by omega))
    by_cases hlt : k' < gs.length
    · obtain ⟨b, off, rfl, hb, c0, c1, c2, c3, c4⟩ := hz k' hlt
      have up : ∀ j u, w.cell? ⟨b, j, none⟩ = some u → wr.cell? ⟨b, j, none⟩ = some u := fun j u h =>
        (hnx.cell (p := ⟨b, j, none⟩) (Nat.lt_succ_of_lt hb)).trans ((World.cell?_alloc_lt _ _ ⟨b, j, none⟩ hb).trans h)
      have d0 := up _ _ c0
      have d1 := up _ _ c1
      have d2 := up _ _ c2
      have d3 := up _ _ c3
      have d4 := up _ _ c4
      have qb : wr.cell? ⟨w.heap.size, 0, none⟩ = some (.slice ra rs.length rc) := (hnx.cell (p := ⟨w.heap.size, 0, none⟩) (Nat.lt_succ_self _)).trans (by simp)
      have hs : Hid (firstNZ (gs.map (gErr rs.length)) = if gErr rs.length (gs.getD k' g0) = 0 then firstNZ ((gs.map (gErr rs.length)).drop (k' + 1)) else gErr rs.length (gs.getD k' g0)) := hno.out.trans (firstNZ_step (gErr rs.length) gs g0 k' hlt)
      clear c0 c1 c2 c3 c4 up hz hno
      generalize (gs.getD k' g0) = s at *
      obtain ⟨k, ak, an, bk, bn⟩ := s
      simp only at d0 d1 d2 d3 d4
      by_cases hE : gErr rs.length ⟨k, ak, an, bk, bn⟩ = 0
      · have HN : Hid (firstNZ (gs.map (gErr rs.length)) = firstNZ ((gs.map (gErr rs.length)).drop (k' + 1))) := hs.out.trans (if_pos hE)
        have HE : Hid (firstNZ [holdE k, chkV ak an rs.length, chkV bk bn rs.length] = 0) := hE
        clear hs hE
        go_wp2_with fail
        refine (holds_any k 0 0 _).mono ?_
        rintro e W ⟨rfl, hbW⟩
        have hWr : Below wr.heap.size wr W := by repeat (first | assumption | exact Below.refl _ _ | refine grow_drew ?_ | refine grow_alloc ?_ _ | refine grow_trans ?_ (by assumption))
        have hW : Below w.heap.size w W := grow_trans hnx' hWr
        have q0 : W.cell? ⟨w.heap.size, 0, none⟩ = some (.slice ra rs.length rc) := ext_cell hWr qb
        have y1 : W.cell? ⟨wr.heap.size, 1, none⟩ = some (.int .i64 ak) := (hbW.cell (by simp)).trans (by simp)
        have y2 : W.cell? ⟨wr.heap.size, 2, none⟩ = some (.int .i64 an) := (hbW.cell (by simp)).trans (by simp)
        have y3 : W.cell? ⟨wr.heap.size, 3, none⟩ = some (.int .i64 bk) := (hbW.cell (by simp)).trans (by simp)
        have y4 : W.cell? ⟨wr.heap.size, 4, none⟩ = some (.int .i64 bn) := (hbW.cell (by simp)).trans (by simp)
        have RB : Hid (Below (w.heap.size + 1) (w.alloc _) W) := hnx.trans (hWr.mono hsz)
        have HWr : Hid (Below wr.heap.size wr W) := hWr
        generalize hG : wr.heap.size = G at *
        clear hbW hWr d0 d1 d2 d3 d4 qb hnx
        go_wp2_with fail
        go_region_held3 (fun w' => Below W.heap.size W w' ∧ w'.cell? ⟨w.heap.size, 0, none⟩ = some (.slice ra rs.length rc) ∧ w'.cell? ⟨G, 1, none⟩ = some (.int .i64 ak) ∧ w'.cell? ⟨G, 2, none⟩ = some (.int .i64 an) ∧ w'.cell? ⟨G, 3, none⟩ = some (.int .i64 bk) ∧ w'.cell? ⟨G, 4, none⟩ = some (.int .i64 bn)) ((go_split_ands; refine ext5 ?_ q0 y1 y2 y3 y4; repeat (first | assumption | exact Below.refl _ _ | refine grow_drew ?_ | refine grow_alloc ?_ _ | refine grow_trans ?_ (by assumption))))
          (first
            | (go_at_call_of 102 (Value.agg #[.int .i64 ak, .int .i64 an]); refine (check_any ak an rs.length _ hwr.out).mono ?_; rintro e w' ⟨rfl, rfl⟩)
            | (go_at_call_of 102 (Value.agg #[.int .i64 bk, .int .i64 bn]); refine (check_any bk bn rs.length _ hwr.out).mono ?_; rintro e w' ⟨rfl, rfl⟩)
            | (go_at_call 25; refine (leave_zero [holdE k, chkV ak an rs.length, chkV bk bn rs.length] _ 3 _ (by simp) HE.out ?_).mono ?_; (exact errs3 _ _ _ _ _ (by simp)); rintro e w' ⟨rfl, rfl⟩))
        go_wp2
        go_roundw
        case rel =>
          refine ⟨k' + 1, by omega, by go_num, HN, RB.out.trans (Below.mono (B := W.heap.size) ?_ (Nat.le_trans hsz (by rw [← hG]; exact HWr.out.size)))⟩
          go_split_ands
          repeat (first | assumption | exact Below.refl _ _ | refine grow_drew ?_ | refine grow_alloc ?_ _ | refine grow_trans ?_ (by assumption))
        case measure => simp [intOf]; omega
      · have HV : Hid (firstNZ (gs.map (gErr rs.length)) = firstNZ [holdE k, chkV ak an rs.length, chkV bk bn rs.length]) := hs.out.trans (if_neg hE)
        have HE : Hid (¬ firstNZ [holdE k, chkV ak an rs.length, chkV bk bn rs.length] = 0) := hE
        have HF : Hid (¬ firstNZ (gs.map (gErr rs.length)) = 0) := by rw [HV.out]; exact hE
        clear hs hE
        go_wp2_with fail
        refine (holds_any k 0 0 _).mono ?_
        rintro e W ⟨rfl, hbW⟩
        have hWr : Below wr.heap.size wr W := by repeat (first | assumption | exact Below.refl _ _ | refine grow_drew ?_ | refine grow_alloc ?_ _ | refine grow_trans ?_ (by assumption))
        have hW : Below w.heap.size w W := grow_trans hnx' hWr
        have q0 : W.cell? ⟨w.heap.size, 0, none⟩ = some (.slice ra rs.length rc) := ext_cell hWr qb
        have y1 : W.cell? ⟨wr.heap.size, 1, none⟩ = some (.int .i64 ak) := (hbW.cell (by simp)).trans (by simp)
        have y2 : W.cell? ⟨wr.heap.size, 2, none⟩ = some (.int .i64 an) := (hbW.cell (by simp)).trans (by simp)
        have y3 : W.cell? ⟨wr.heap.size, 3, none⟩ = some (.int .i64 bk) := (hbW.cell (by simp)).trans (by simp)
        have y4 : W.cell? ⟨wr.heap.size, 4, none⟩ = some (.int .i64 bn) := (hbW.cell (by simp)).trans (by simp)
        have RB : Hid (Below (w.heap.size + 1) (w.alloc _) W) := hnx.trans (hWr.mono hsz)
        have HWr : Hid (Below wr.heap.size wr W) := hWr
        generalize hG : wr.heap.size = G at *
        clear hbW hWr d0 d1 d2 d3 d4 qb hnx
        go_wp2_with fail
        go_region_held (fun w' => Below W.heap.size W w' ∧ w'.cell? ⟨w.heap.size, 0, none⟩ = some (.slice ra rs.length rc) ∧ w'.cell? ⟨G, 1, none⟩ = some (.int .i64 ak) ∧ w'.cell? ⟨G, 2, none⟩ = some (.int .i64 an) ∧ w'.cell? ⟨G, 3, none⟩ = some (.int .i64 bk) ∧ w'.cell? ⟨G, 4, none⟩ = some (.int .i64 bn)) ((go_split_ands; refine ext5 ?_ q0 y1 y2 y3 y4; repeat (first | assumption | exact Below.refl _ _ | refine grow_drew ?_ | refine grow_alloc ?_ _ | refine grow_trans ?_ (by assumption))))
          (first
            | (go_at_call_of 102 (Value.agg #[.int .i64 ak, .int .i64 an]); refine (check_any ak an rs.length _ hwr.out).mono ?_; rintro e w' ⟨rfl, rfl⟩)
            | (go_at_call_of 102 (Value.agg #[.int .i64 bk, .int .i64 bn]); refine (check_any bk bn rs.length _ hwr.out).mono ?_; rintro e w' ⟨rfl, rfl⟩)
            | (go_at_call 25; refine (panic_or (leave_nz [holdE k, chkV ak an rs.length, chkV bk bn rs.length] _ 3 _ (by simp) HE.out ?_) (.tuple #[])).mono ?_; (exact errs3 _ _ _ _ _ (by simp)); rintro e w' (⟨rfl, rfl⟩ | ⟨hF, rfl, rfl⟩); (refine ⟨rfl, .inr ⟨HF.out, by rw [HV.out]⟩, grow_trans hW ?_⟩; go_split_ands; repeat (first | assumption | exact Below.refl _ _ | refine grow_drew ?_ | refine grow_alloc ?_ _ | refine grow_trans ?_ (by assumption)))))
        exact (‹Hid False› : Hid False).out.elim
    · have H' : Hid (firstNZ (gs.map (gErr rs.length)) = 0) := by
        have h0 := hno.out
        rw [List.drop_of_length_le (by simp; omega)] at h0
        exact h0
      clear hno hz hnx
      go_wp2
      go_end0
      exact ⟨.inl ⟨H'.out, rfl⟩, hnx'⟩

set_option maxRecDepth 100000 in
set_option maxHeartbeats 2000000 in
theorem checkSets_any (w : World) (ht : IsTx w ra ga sa rs gs ss) :
    Calls Try.prog 81 #[.agg #[.slice ra rs.length rc, .slice ga gs.length gc, .slice sa ss.length sc]] w fun e w' => ((firstNZ (ss.map (sErr rs.length)) = 0 ∧ e = .returned (.tuple #[])) ∨ (¬ firstNZ (ss.map (sErr rs.length)) = 0 ∧ e = .panicked [{ v := .iface 25 (.int .i64 (firstNZ (ss.map (sErr rs.length)))), recovered := false }])) ∧ Below w.heap.size w w' := by
  have hwr : Hid ((Lit.int .i64 (rs.length : Int)).wf = true) := WalkArith.wf_i64 (by have := ht.lr; unfold maxLen at this; omega)
  obtain ⟨_, _, hz, _, _, hl⟩ := ht
  unfold maxLen at hl
  go_enter Try.func81, Try.ntmps81
  go_wp2
  go_loopw [3, 4, 5, 9] (fun _ _ _ i wr => ∃ k : Nat, k ≤ ss.length ∧ i = .int .i64 k ∧ Hid (firstNZ (ss.map (sErr rs.length)) = firstNZ ((ss.map (sErr rs.length)).drop k)) ∧ Below (w.heap.size + 1) (w.alloc (.cells #[.slice ra rs.length rc, .slice ga gs.length gc, .slice sa ss.length sc] 38)) wr) (fun _ _ _ i _ => ss.length - (intOf i).toNat)
  case atStart => exact ⟨0, Nat.zero_le _, rfl, rfl, Below.refl _ _⟩
  case round =>
    obtain ⟨k', hk, rfl, hno, hnx⟩ := hrel
    have hsz : w.heap.size + 1 ≤ wr.heap.size := by have := hnx.size; simpa using this
    have hnx' : Below w.heap.size w wr := (grow_alloc (Below.refl _ _) _).trans (hnx.mono (by omega))
    by_cases hlt : k' < ss.length
    · obtain ⟨b, off, rfl, hb, c0, c1, c2, c3, c4, c5⟩ := hz k' hlt
      have up : ∀ j u, w.cell? ⟨b, j, none⟩ = some u → wr.cell? ⟨b, j, none⟩ = some u := fun j u h =>
        (hnx.cell (p := ⟨b, j, none⟩) (Nat.lt_succ_of_lt hb)).trans ((World.cell?_alloc_lt _ _ ⟨b, j, none⟩ hb).trans h)
      have d0 := up _ _ c0
      have d1 := up _ _ c1
      have d2 := up _ _ c2
      have d3 := up _ _ c3
      have d4 := up _ _ c4
      have d5 := up _ _ c5
      have qb : wr.cell? ⟨w.heap.size, 0, none⟩ = some (.slice ra rs.length rc) := (hnx.cell (p := ⟨w.heap.size, 0, none⟩) (Nat.lt_succ_self _)).trans (by simp)
      have hs : Hid (firstNZ (ss.map (sErr rs.length)) = if sErr rs.length (ss.getD k' s0) = 0 then firstNZ ((ss.map (sErr rs.length)).drop (k' + 1)) else sErr rs.length (ss.getD k' s0)) := hno.out.trans (firstNZ_step (sErr rs.length) ss s0 k' hlt)
      clear c0 c1 c2 c3 c4 c5 up hz hno
      generalize (ss.getD k' s0) = s at *
      obtain ⟨key, op, ak, an, bk, bn⟩ := s
      simp only at d0 d1 d2 d3 d4 d5
      by_cases hE : sErr rs.length ⟨key, op, ak, an, bk, bn⟩ = 0
      · have HN : Hid (firstNZ (ss.map (sErr rs.length)) = firstNZ ((ss.map (sErr rs.length)).drop (k' + 1))) := hs.out.trans (if_pos hE)
        have HE : Hid (firstNZ [reckE op, chkV ak an rs.length, chkV bk bn rs.length] = 0) := hE
        clear hs hE
        go_wp2_with fail
        refine (reckon_any op 0 0 _).mono ?_
        rintro e W ⟨rfl, hbW⟩
        have hWr : Below wr.heap.size wr W := by repeat (first | assumption | exact Below.refl _ _ | refine grow_drew ?_ | refine grow_alloc ?_ _ | refine grow_trans ?_ (by assumption))
        have hW : Below w.heap.size w W := grow_trans hnx' hWr
        have q0 : W.cell? ⟨w.heap.size, 0, none⟩ = some (.slice ra rs.length rc) := ext_cell hWr qb
        have y1 : W.cell? ⟨wr.heap.size, 2, none⟩ = some (.int .i64 ak) := (hbW.cell (by simp)).trans (by simp)
        have y2 : W.cell? ⟨wr.heap.size, 3, none⟩ = some (.int .i64 an) := (hbW.cell (by simp)).trans (by simp)
        have y3 : W.cell? ⟨wr.heap.size, 4, none⟩ = some (.int .i64 bk) := (hbW.cell (by simp)).trans (by simp)
        have y4 : W.cell? ⟨wr.heap.size, 5, none⟩ = some (.int .i64 bn) := (hbW.cell (by simp)).trans (by simp)
        have RB : Hid (Below (w.heap.size + 1) (w.alloc _) W) := hnx.trans (hWr.mono hsz)
        have HWr : Hid (Below wr.heap.size wr W) := hWr
        generalize hG : wr.heap.size = G at *
        clear hbW hWr d0 d1 d2 d3 d4 d5 qb hnx
        go_wp2_with fail
        go_region_held3 (fun w' => Below W.heap.size W w' ∧ w'.cell? ⟨w.heap.size, 0, none⟩ = some (.slice ra rs.length rc) ∧ w'.cell? ⟨G, 2, none⟩ = some (.int .i64 ak) ∧ w'.cell? ⟨G, 3, none⟩ = some (.int .i64 an) ∧ w'.cell? ⟨G, 4, none⟩ = some (.int .i64 bk) ∧ w'.cell? ⟨G, 5, none⟩ = some (.int .i64 bn)) ((go_split_ands; refine ext5 ?_ q0 y1 y2 y3 y4; repeat (first | assumption | exact Below.refl _ _ | refine grow_drew ?_ | refine grow_alloc ?_ _ | refine grow_trans ?_ (by assumption))))
          (first
            | (go_at_call_of 102 (Value.agg #[.int .i64 ak, .int .i64 an]); refine (check_any ak an rs.length _ hwr.out).mono ?_; rintro e w' ⟨rfl, rfl⟩)
            | (go_at_call_of 102 (Value.agg #[.int .i64 bk, .int .i64 bn]); refine (check_any bk bn rs.length _ hwr.out).mono ?_; rintro e w' ⟨rfl, rfl⟩)
            | (go_at_call 25; refine (leave_zero [reckE op, chkV ak an rs.length, chkV bk bn rs.length] _ 3 _ (by simp) HE.out ?_).mono ?_; (exact errs3 _ _ _ _ _ (by simp)); rintro e w' ⟨rfl, rfl⟩))
        go_wp2
        go_roundw
        case rel =>
          refine ⟨k' + 1, by omega, by go_num, HN, RB.out.trans (Below.mono (B := W.heap.size) ?_ (Nat.le_trans hsz (by rw [← hG]; exact HWr.out.size)))⟩
          go_split_ands
          repeat (first | assumption | exact Below.refl _ _ | refine grow_drew ?_ | refine grow_alloc ?_ _ | refine grow_trans ?_ (by assumption))
        case measure => simp [intOf]; omega
      · have HV : Hid (firstNZ (ss.map (sErr rs.length)) = firstNZ [reckE op, chkV ak an rs.length, chkV bk bn rs.length]) := hs.out.trans (if_neg hE)
        have HE : Hid (¬ firstNZ [reckE op, chkV ak an rs.length, chkV bk bn rs.length] = 0) := hE
        have HF : Hid (¬ firstNZ (ss.map (sErr rs.length)) = 0) := by rw [HV.out]; exact hE
        clear hs hE
        go_wp2_with fail
        refine (reckon_any op 0 0 _).mono ?_
        rintro e W ⟨rfl, hbW⟩
        have hWr : Below wr.heap.size wr W := by repeat (first | assumption | exact Below.refl _ _ | refine grow_drew ?_ | refine grow_alloc ?_ _ | refine grow_trans ?_ (by assumption))
        have hW : Below w.heap.size w W := grow_trans hnx' hWr
        have q0 : W.cell? ⟨w.heap.size, 0, none⟩ = some (.slice ra rs.length rc) := ext_cell hWr qb
        have y1 : W.cell? ⟨wr.heap.size, 2, none⟩ = some (.int .i64 ak) := (hbW.cell (by simp)).trans (by simp)
        have y2 : W.cell? ⟨wr.heap.size, 3, none⟩ = some (.int .i64 an) := (hbW.cell (by simp)).trans (by simp)
        have y3 : W.cell? ⟨wr.heap.size, 4, none⟩ = some (.int .i64 bk) := (hbW.cell (by simp)).trans (by simp)
        have y4 : W.cell? ⟨wr.heap.size, 5, none⟩ = some (.int .i64 bn) := (hbW.cell (by simp)).trans (by simp)
        have RB : Hid (Below (w.heap.size + 1) (w.alloc _) W) := hnx.trans (hWr.mono hsz)
        have HWr : Hid (Below wr.heap.size wr W) := hWr
        generalize hG : wr.heap.size = G at *
        clear hbW hWr d0 d1 d2 d3 d4 d5 qb hnx
        go_wp2_with fail
        go_region_held (fun w' => Below W.heap.size W w' ∧ w'.cell? ⟨w.heap.size, 0, none⟩ = some (.slice ra rs.length rc) ∧ w'.cell? ⟨G, 2, none⟩ = some (.int .i64 ak) ∧ w'.cell? ⟨G, 3, none⟩ = some (.int .i64 an) ∧ w'.cell? ⟨G, 4, none⟩ = some (.int .i64 bk) ∧ w'.cell? ⟨G, 5, none⟩ = some (.int .i64 bn)) ((go_split_ands; refine ext5 ?_ q0 y1 y2 y3 y4; repeat (first | assumption | exact Below.refl _ _ | refine grow_drew ?_ | refine grow_alloc ?_ _ | refine grow_trans ?_ (by assumption))))
          (first
            | (go_at_call_of 102 (Value.agg #[.int .i64 ak, .int .i64 an]); refine (check_any ak an rs.length _ hwr.out).mono ?_; rintro e w' ⟨rfl, rfl⟩)
            | (go_at_call_of 102 (Value.agg #[.int .i64 bk, .int .i64 bn]); refine (check_any bk bn rs.length _ hwr.out).mono ?_; rintro e w' ⟨rfl, rfl⟩)
            | (go_at_call 25; refine (panic_or (leave_nz [reckE op, chkV ak an rs.length, chkV bk bn rs.length] _ 3 _ (by simp) HE.out ?_) (.tuple #[])).mono ?_; (exact errs3 _ _ _ _ _ (by simp)); rintro e w' (⟨rfl, rfl⟩ | ⟨hF, rfl, rfl⟩); (refine ⟨rfl, .inr ⟨HF.out, by rw [HV.out]⟩, grow_trans hW ?_⟩; go_split_ands; repeat (first | assumption | exact Below.refl _ _ | refine grow_drew ?_ | refine grow_alloc ?_ _ | refine grow_trans ?_ (by assumption)))))
        exact (‹Hid False› : Hid False).out.elim
    · have H' : Hid (firstNZ (ss.map (sErr rs.length)) = 0) := by
        have h0 := hno.out
        rw [List.drop_of_length_le (by simp; omega)] at h0
        exact h0
      clear hno hz hnx
      go_wp2
      go_end0
      exact ⟨.inl ⟨H'.out, rfl⟩, hnx'⟩
end Go.Proofs.Ytcgpkonfneofdaa
