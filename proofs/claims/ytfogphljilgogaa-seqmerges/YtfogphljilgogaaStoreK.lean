/-
  The document's own SameResults at results that are the same, and ApplyOf.
  Conditions: what they are handed can be read.
-/
import Derived.Test.YtfogphljilgogaaStoreJ
import Derived.WalkKit
import Derived.WalkSpells
import Derived.WalkLawsBesides
import Derived.Defers
import Derived.Recover
import Derived.ProofKit
import Derived.Deep.RegionHeld
import Derived.Deep.RegionHeld3
import Derived.BigQuiet
namespace Go.Proofs.Ytfogphljilgogaa
open Go.RowKit

set_option maxRecDepth 100000 in
theorem ext4r {W w' : World} {p1 p2 p3 p4 : Addr} {v1 v2 v3 v4 : Value} (hb : Below W.heap.size W w') (q1 : W.cell? p1 = some v1) (q2 : W.cell? p2 = some v2) (q3 : W.cell? p3 = some v3) (q4 : W.cell? p4 = some v4) :
    w'.cell? p1 = some v1 ∧ w'.cell? p2 = some v2 ∧ w'.cell? p3 = some v3 ∧ w'.cell? p4 = some v4 ∧ Hid (Below W.heap.size W w') := ⟨ext_cell hb q1, ext_cell hb q2, ext_cell hb q3, ext_cell hb q4, hb⟩

set_option maxRecDepth 100000 in
set_option maxHeartbeats 2000000 in
theorem sameResults_eq (R : List (Bool × List Int)) (a a' : Option Addr) (c c' : Nat) (w : World) (hR : R.length ≤ 100) (hI : ∀ r ∈ R, r.2.length ≤ 100) (h1 : IsRes w a R) (h2 : IsRes w a' R) :
    Calls Try.prog 19 #[.slice a R.length c, .slice a' R.length c'] w fun e w' => e = .returned (.bool true) ∧ Below w.heap.size w w' := by
  go_enter Try.func19, Try.ntmps19
  go_wp2
  go_loopw [5] (fun i wr => ∃ k : Nat, k ≤ R.length ∧ i = .int .i64 k ∧ Below w.heap.size w wr) (fun i _ => R.length - (intOf i).toNat)
  case atStart => exact ⟨0, Nat.zero_le _, rfl, Below.refl _ _⟩
  case round =>
    obtain ⟨k, hk, rfl, hnx⟩ := hrel
    by_cases hlt : k < R.length
    · obtain ⟨b, off, va, vc, rfl, hb, c0, c1, hz⟩ := h1 k hlt
      obtain ⟨b', off', va', vc', rfl, hb', e0, e1, hz'⟩ := h2 k hlt
      have hm : R.getD k (false, []) ∈ R := by simp [List.getD, hlt]
      have hl := hI _ hm
      have d0 := ext_cell hnx c0
      have d1 := ext_cell hnx c1
      have f0 := ext_cell hnx e0
      have f1 := ext_cell hnx e1
      have HZ : Hid (IsInts wr va (R.getD k (false, [])).2) := hz.below hnx
      have HZ' : Hid (IsInts wr va' (R.getD k (false, [])).2) := hz'.below hnx
      generalize R.getD k (false, []) = r at *
      obtain ⟨D, Z⟩ := r
      simp only at d0 d1 f0 f1 hl
      have hzl : Hid (Z.length ≤ maxLen) := by show _ ≤ _; unfold maxLen; omega
      have hnx' : Hid (Below w.heap.size w wr) := hnx
      clear c0 c1 e0 e1 hz hz' hm h1 h2 hI hnx hl
      have i1 : (0 : Int) ≤ (k : Int) := by omega
      have i2 : (k : Int) < (R.length : Int) := by omega
      have hKS : Hid (∀ w', Below wr.heap.size wr w' → w'.cell? ⟨b, off + k * 2, none⟩ = some (.bool D) ∧ w'.cell? ⟨b, off + k * 2 + 1, none⟩ = some (.slice va Z.length vc) ∧ w'.cell? ⟨b', off' + k * 2, none⟩ = some (.bool D) ∧ w'.cell? ⟨b', off' + k * 2 + 1, none⟩ = some (.slice va' Z.length vc') ∧ Hid (Below wr.heap.size wr w')) := fun w' h => ext4r h d0 d1 f0 f1
      go_wp2
      go_region_held3 (fun w' => w'.cell? ⟨b, off + k * 2, none⟩ = some (.bool D) ∧ w'.cell? ⟨b, off + k * 2 + 1, none⟩ = some (.slice va Z.length vc) ∧ w'.cell? ⟨b', off' + k * 2, none⟩ = some (.bool D) ∧ w'.cell? ⟨b', off' + k * 2 + 1, none⟩ = some (.slice va' Z.length vc') ∧ Hid (Below wr.heap.size wr w')) ((refine hKS.out _ ?_; go_split_ands; repeat (first | assumption | exact Below.refl _ _ | exact Hid.out (by assumption) | refine grow_drew ?_ | refine grow_alloc ?_ _ | refine grow_trans ?_ (by assumption))))
        (first
          | (go_at_call 16; refine (sameInts_any Z Z va va' vc vc' _ hzl.out ?_ ?_).mono ?_; (refine HZ.out.below ?_; go_split_ands; exact Hid.out (by assumption)); (refine HZ'.out.below ?_; go_split_ands; exact Hid.out (by assumption)); rintro e w' ⟨rfl, hbx⟩))
      go_split_ands
      have RB : ∃ wx, wx = w' ∧ Below w.heap.size w wx := ⟨_, rfl, grow_trans hnx'.out (Hid.out (by assumption))⟩
      obtain ⟨wx, rfl, RB⟩ := RB
      clear hKS d0 d1 f0 f1 HZ HZ'
      go_wp2
      go_roundw
      case rel => exact ⟨k + 1, by omega, by go_num, RB⟩
      case measure => simp [intOf]; omega
    · clear h1 h2
      go_wp2
      go_ret
      exact ⟨rfl, hnx⟩

variable (sa : Option Addr) (sc : Nat) (s : List Int) (ra ga ta : Option Addr) (rc gc tc : Nat) (rs : List Int) (gs : List Gd) (ss : List St)

set_option maxRecDepth 100000 in
theorem chkL_one (x : TxA) : chkL [x] = chkX x := by
  unfold chkL
  rw [if_neg (by simp)]
  simp only [List.map_cons, List.map_nil, firstNZ]
  split <;> simp_all

def apF (s : List Int) (x : TxA) : List Int := if serE s [x] = 0 then aEnd s x else []

set_option maxRecDepth 100000 in
theorem storeApply_any (w : World) (hs : IsInts w sa s) (hx : IsX w ⟨ra, ga, ta, rc, gc, tc, rs, gs, ss⟩) :
    Calls Try.prog 11 #[.slice sa s.length sc, .agg #[.slice ra rs.length rc, .slice ga gs.length gc, .slice ta ss.length tc]] w fun e w' => ∃ ea ec va vc, e = .returned (.tuple #[.slice ea (apF s ⟨ra, ga, ta, rc, gc, tc, rs, gs, ss⟩).length ec, .agg #[.bool (apD s ⟨ra, ga, ta, rc, gc, tc, rs, gs, ss⟩), .slice va (apV s ⟨ra, ga, ta, rc, gc, tc, rs, gs, ss⟩).length vc], .int .i64 (serE s [⟨ra, ga, ta, rc, gc, tc, rs, gs, ss⟩])]) ∧ IsInts w' ea (apF s ⟨ra, ga, ta, rc, gc, tc, rs, gs, ss⟩) ∧ IsInts w' va (apV s ⟨ra, ga, ta, rc, gc, tc, rs, gs, ss⟩) ∧ Below w.heap.size w w' := by
  by_cases hE : serE s [⟨ra, ga, ta, rc, gc, tc, rs, gs, ss⟩] = 0
  · have e1 : apF s ⟨ra, ga, ta, rc, gc, tc, rs, gs, ss⟩ = aEnd s ⟨ra, ga, ta, rc, gc, tc, rs, gs, ss⟩ := if_pos hE
    have e2 : apD s ⟨ra, ga, ta, rc, gc, tc, rs, gs, ss⟩ = aDone s ⟨ra, ga, ta, rc, gc, tc, rs, gs, ss⟩ := if_pos hE
    have e3 : apV s ⟨ra, ga, ta, rc, gc, tc, rs, gs, ss⟩ = aVals s ⟨ra, ga, ta, rc, gc, tc, rs, gs, ss⟩ := if_pos hE
    rw [e1, e2, e3, hE]
    exact storeApply_ok sa sc s ra ga ta rc gc tc rs gs ss w hs hx hE
  · have e1 : apF s ⟨ra, ga, ta, rc, gc, tc, rs, gs, ss⟩ = [] := if_neg hE
    have e2 : apD s ⟨ra, ga, ta, rc, gc, tc, rs, gs, ss⟩ = false := if_neg hE
    have e3 : apV s ⟨ra, ga, ta, rc, gc, tc, rs, gs, ss⟩ = [] := if_neg hE
    rw [e1, e2, e3]
    exact (storeApply_bad sa sc s ra ga ta rc gc tc rs gs ss w hs hx hE).mono fun e w' ⟨h1, h2⟩ => ⟨none, 0, none, 0, h1, fun i hi => absurd hi (by simp), fun i hi => absurd hi (by simp), h2⟩

set_option maxRecDepth 100000 in
set_option maxHeartbeats 1000000 in
theorem applyOf_any (w : World) (hs : IsInts w sa s) (hx : IsX w ⟨ra, ga, ta, rc, gc, tc, rs, gs, ss⟩) :
    Calls Try.prog 12 #[.slice sa s.length sc, .agg #[.slice ra rs.length rc, .slice ga gs.length gc, .slice ta ss.length tc]] w fun e w' => ∃ ea ec va vc, e = .returned (.tuple #[.slice ea (apF s ⟨ra, ga, ta, rc, gc, tc, rs, gs, ss⟩).length ec, .agg #[.bool (apD s ⟨ra, ga, ta, rc, gc, tc, rs, gs, ss⟩), .slice va (apV s ⟨ra, ga, ta, rc, gc, tc, rs, gs, ss⟩).length vc], .int .i64 (serE s [⟨ra, ga, ta, rc, gc, tc, rs, gs, ss⟩])]) ∧ IsInts w' ea (apF s ⟨ra, ga, ta, rc, gc, tc, rs, gs, ss⟩) ∧ IsInts w' va (apV s ⟨ra, ga, ta, rc, gc, tc, rs, gs, ss⟩) ∧ Below w.heap.size w w' := by
  have y0 : ((w.alloc (.cells #[.slice ra rs.length rc, .slice ga gs.length gc, .slice ta ss.length tc] 26)).alloc (.cells #[.bool false, .slice none 0 0] 28)).cell? ⟨w.heap.size, 0, none⟩ = some (.slice ra rs.length rc) := by rw [World.cell?_alloc_lt _ _ _ (by simp)]; simp
  have y1 : ((w.alloc (.cells #[.slice ra rs.length rc, .slice ga gs.length gc, .slice ta ss.length tc] 26)).alloc (.cells #[.bool false, .slice none 0 0] 28)).cell? ⟨w.heap.size, 1, none⟩ = some (.slice ga gs.length gc) := by rw [World.cell?_alloc_lt _ _ _ (by simp)]; simp
  have y2 : ((w.alloc (.cells #[.slice ra rs.length rc, .slice ga gs.length gc, .slice ta ss.length tc] 26)).alloc (.cells #[.bool false, .slice none 0 0] 28)).cell? ⟨w.heap.size, 2, none⟩ = some (.slice ta ss.length tc) := by rw [World.cell?_alloc_lt _ _ _ (by simp)]; simp
  have y3 : ((w.alloc (.cells #[.slice ra rs.length rc, .slice ga gs.length gc, .slice ta ss.length tc] 26)).alloc (.cells #[.bool false, .slice none 0 0] 28)).cell? ⟨w.heap.size + 1, 0, none⟩ = some (.bool false) := by simp
  have y4 : ((w.alloc (.cells #[.slice ra rs.length rc, .slice ga gs.length gc, .slice ta ss.length tc] 26)).alloc (.cells #[.bool false, .slice none 0 0] 28)).cell? ⟨w.heap.size + 1, 1, none⟩ = some (.slice none 0 0) := by simp
  have yf : ∀ j, ((w.alloc (.cells #[.slice ra rs.length rc, .slice ga gs.length gc, .slice ta ss.length tc] 26)).alloc (.cells #[.bool false, .slice none 0 0] 28)).frozen? ⟨w.heap.size + 1, j, none⟩ = false := fun j => by simp
  have VB : Hid (Below w.heap.size w ((w.alloc (.cells #[.slice ra rs.length rc, .slice ga gs.length gc, .slice ta ss.length tc] 26)).alloc (.cells #[.bool false, .slice none 0 0] 28))) := grow_alloc (grow_alloc (Below.refl _ _) _) _
  have hV2 : ((w.alloc (.cells #[.slice ra rs.length rc, .slice ga gs.length gc, .slice ta ss.length tc] 26)).alloc (.cells #[.bool false, .slice none 0 0] 28)).heap.size = w.heap.size + 2 := by simp
  by_cases h8 : s.length = 8
  · have hc : serE s [⟨ra, ga, ta, rc, gc, tc, rs, gs, ss⟩] = chkTx rs gs ss := (serE_chk h8).trans (chkL_one _)
    have hd8 : Hid (decide (s.length = 8) = true) := decide_eq_true h8
    have HX : Hid (IsX w ⟨ra, ga, ta, rc, gc, tc, rs, gs, ss⟩) := hx
    have HS : Hid (IsInts w sa s) := hs
    have H8 : Hid (s.length = 8) := h8
    by_cases hE : chkTx rs gs ss = 0
    · have e1 : apF s ⟨ra, ga, ta, rc, gc, tc, rs, gs, ss⟩ = aEnd s ⟨ra, ga, ta, rc, gc, tc, rs, gs, ss⟩ := if_pos (hc.trans hE)
      have e2 : apD s ⟨ra, ga, ta, rc, gc, tc, rs, gs, ss⟩ = aDone s ⟨ra, ga, ta, rc, gc, tc, rs, gs, ss⟩ := if_pos (hc.trans hE)
      have e3 : apV s ⟨ra, ga, ta, rc, gc, tc, rs, gs, ss⟩ = aVals s ⟨ra, ga, ta, rc, gc, tc, rs, gs, ss⟩ := if_pos (hc.trans hE)
      have HL : Hid ((aEnd s ⟨ra, ga, ta, rc, gc, tc, rs, gs, ss⟩).length = s.length) := aEnd_len _ _
      rw [e1, e2, e3, hc, hE, HL.out]
      have HE : Hid (chkTx rs gs ss = 0) := hE
      have CA : Hid (∀ w', IsInts w' sa s → IsTx w' ra ga ta rs gs ss → Calls Try.prog 39 #[.slice sa s.length sc, .agg #[.slice ra rs.length rc, .slice ga gs.length gc, .slice ta ss.length tc]] w' fun e w'' => ∃ a cap va vc, e = .returned (.tuple #[.slice a s.length cap, .agg #[.bool (aDone s ⟨ra, ga, ta, rc, gc, tc, rs, gs, ss⟩), .slice va (aVals s ⟨ra, ga, ta, rc, gc, tc, rs, gs, ss⟩).length vc]]) ∧ IsAt w'.heap.size w''.heap.size w'' a (aEnd s ⟨ra, ga, ta, rc, gc, tc, rs, gs, ss⟩) ∧ (a = none → cap = 0) ∧ IsAt w'.heap.size w''.heap.size w'' va (aVals s ⟨ra, ga, ta, rc, gc, tc, rs, gs, ss⟩) ∧ Below w'.heap.size w' w'') := fun w' h1 h2 => applyR_any sa sc s ra ga ta rc gc tc rs gs ss w' h1 h8 h2 hE
      generalize aEnd s ⟨ra, ga, ta, rc, gc, tc, rs, gs, ss⟩ = E1 at *
      generalize aDone s ⟨ra, ga, ta, rc, gc, tc, rs, gs, ss⟩ = D at *
      generalize aVals s ⟨ra, ga, ta, rc, gc, tc, rs, gs, ss⟩ = Z at *
      clear hc hE e1 e2 e3 h8 hs hx
      go_enter Try.func12, Try.ntmps12
      go_upto_region 1 with fail
      generalize ((w.alloc (.cells #[.slice ra rs.length rc, .slice ga gs.length gc, .slice ta ss.length tc] 26)).alloc (.cells #[.bool false, .slice none 0 0] 28)) = V at *
      go_wp2_with fail
      refine (isStore_any s sa sc _).mono ?_
      rintro e w0 ⟨rfl, hw0⟩
      rw [hw0, hd8.out]
      clear hw0
      go_wp2_with fail
      refine (checkTxn_any ra ga ta rc gc tc rs gs ss _ (HX.out.t.below VB.out)).mono ?_
      rintro e w1 ⟨rfl, hb1⟩
      rw [HE.out]
      have z0 := ext_cell hb1 y0
      have z1 := ext_cell hb1 y1
      have z2 := ext_cell hb1 y2
      have B1 := grow_trans VB.out hb1
      go_wp2_with fail
      refine (CA.out _ (HS.out.below B1) (HX.out.t.below B1)).mono ?_
      rintro e w2 ⟨a, cap, va, vc, rfl, ha, _, hva, hb2⟩
      have U : Below w2.heap.size w2 (w2.alloc (.cells #[.bool D, .slice va Z.length vc] 28)) := grow_alloc (Below.refl _ _) _
      have U1 : Below V.heap.size V (w2.alloc (.cells #[.bool D, .slice va Z.length vc] 28)) := grow_trans (grow_trans hb1 hb2) U
      have x3 := ext_cell U1 y3
      have x4 := ext_cell U1 y4
      have xf : ∀ j, (w2.alloc (.cells #[.bool D, .slice va Z.length vc] 28)).frozen? ⟨w.heap.size + 1, j, none⟩ = false := fun j => (U1.frozen (p := ⟨w.heap.size + 1, j, none⟩) (by show w.heap.size + 1 < _; omega)).trans (yf j)
      have r0 : (w2.alloc (.cells #[.bool D, .slice va Z.length vc] 28)).cell? ⟨w2.heap.size, 0, none⟩ = some (.bool D) := by simp
      have r1 : (w2.alloc (.cells #[.bool D, .slice va Z.length vc] 28)).cell? ⟨w2.heap.size, 1, none⟩ = some (.slice va Z.length vc) := by simp
      have hs1 : w.heap.size + 2 ≤ w1.heap.size := by have := hb1.size; omega
      have ha2 : Hid (IsAt (w.heap.size + 2) w2.heap.size (w2.alloc (.cells #[.bool D, .slice va Z.length vc] 28)) a E1) := (ha.below U).widen hs1 (Nat.le_refl _)
      have hva2 : Hid (IsAt (w.heap.size + 2) w2.heap.size (w2.alloc (.cells #[.bool D, .slice va Z.length vc] 28)) va Z) := (hva.below U).widen hs1 (Nat.le_refl _)
      have BB : Hid (Below w.heap.size w (w2.alloc (.cells #[.bool D, .slice va Z.length vc] 28))) := grow_trans VB.out U1
      have hws : Hid (w2.heap.size ≤ (w2.alloc (.cells #[.bool D, .slice va Z.length vc] 28)).heap.size) := U.size
      have hs2 : w.heap.size + 2 ≤ w2.heap.size := by have := hb2.size; omega
      go_upto_region 7 with fail
      clear ha hva hb1 hb2 U U1 z0 z1 z2 y0 y1 y2 y3 y4 yf B1 CA
      generalize (w2.alloc (.cells #[.bool D, .slice va Z.length vc] 28)) = W at *
      go_region
      all_goals (
        go_wp2
        refine bodyPost_ret (v := .tuple #[.slice a s.length cap, .agg #[.bool D, .slice va Z.length vc], .int .i64 0]) (by simp [results, Try.results12, go_sem, x3, x4]) rfl ⟨a, cap, va, vc, rfl, ?_, ?_, ?_⟩
        · exact IsAt.ints (((ha2.out.set ⟨w.heap.size + 1, 0, none⟩ _ (.inl (by simp))).set ⟨w.heap.size + 1, 1, none⟩ _ (.inl (by simp))).below (grow_drew (Below.refl _ _))) (by simpa using hws.out)
        · exact IsAt.ints (((hva2.out.set ⟨w.heap.size + 1, 0, none⟩ _ (.inl (by simp))).set ⟨w.heap.size + 1, 1, none⟩ _ (.inl (by simp))).below (grow_drew (Below.refl _ _))) (by simpa using hws.out)
        · exact grow_drew (grow_set (grow_set BB.out (by simp) _) (by simp) _))
    · have e1 : apF s ⟨ra, ga, ta, rc, gc, tc, rs, gs, ss⟩ = [] := if_neg (by rw [hc]; exact hE)
      have e2 : apD s ⟨ra, ga, ta, rc, gc, tc, rs, gs, ss⟩ = false := if_neg (by rw [hc]; exact hE)
      have e3 : apV s ⟨ra, ga, ta, rc, gc, tc, rs, gs, ss⟩ = [] := if_neg (by rw [hc]; exact hE)
      rw [e1, e2, e3, hc]
      have hb' : (chkTx rs gs ss != 0) = true := by simpa using hE
      clear hc hE e1 e2 e3 h8 hs hx
      go_enter Try.func12, Try.ntmps12
      go_upto_region 1 with fail
      generalize ((w.alloc (.cells #[.slice ra rs.length rc, .slice ga gs.length gc, .slice ta ss.length tc] 26)).alloc (.cells #[.bool false, .slice none 0 0] 28)) = V at *
      go_wp2_with fail
      refine (isStore_any s sa sc _).mono ?_
      rintro e w0 ⟨rfl, hw0⟩
      rw [hw0, hd8.out]
      clear hw0
      go_wp2_with fail
      refine (checkTxn_any ra ga ta rc gc tc rs gs ss _ (HX.out.t.below VB.out)).mono ?_
      rintro e w1 ⟨rfl, hb1⟩
      have x3 := ext_cell hb1 y3
      have x4 := ext_cell hb1 y4
      have xf : ∀ j, w1.frozen? ⟨w.heap.size + 1, j, none⟩ = false := fun j => (hb1.frozen (p := ⟨w.heap.size + 1, j, none⟩) (by show w.heap.size + 1 < _; omega)).trans (yf j)
      have BB : Hid (Below w.heap.size w w1) := grow_trans VB.out hb1
      clear y0 y1 y2 y3 y4 yf hb1
      go_wp2
      refine bodyPost_ret (v := .tuple #[.slice none 0 0, .agg #[.bool false, .slice none 0 0], .int .i64 (chkTx rs gs ss)]) (by simp [results, Try.results12, go_sem, x3, x4]) rfl ⟨none, 0, none, 0, rfl, fun i hi => absurd hi (by simp), fun i hi => absurd hi (by simp), ?_⟩
      exact grow_set (grow_set BB.out (by simp) _) (by simp) _
  · have hc : serE s [⟨ra, ga, ta, rc, gc, tc, rs, gs, ss⟩] = 1 := serE_len h8
    have e1 : apF s ⟨ra, ga, ta, rc, gc, tc, rs, gs, ss⟩ = [] := if_neg (by rw [hc]; decide)
    have e2 : apD s ⟨ra, ga, ta, rc, gc, tc, rs, gs, ss⟩ = false := if_neg (by rw [hc]; decide)
    have e3 : apV s ⟨ra, ga, ta, rc, gc, tc, rs, gs, ss⟩ = [] := if_neg (by rw [hc]; decide)
    rw [e1, e2, e3, hc]
    have hd8 : Hid (decide (s.length = 8) = false) := decide_eq_false h8
    clear hc e1 e2 e3 h8 hs hx
    go_enter Try.func12, Try.ntmps12
    go_upto_region 1 with fail
    generalize ((w.alloc (.cells #[.slice ra rs.length rc, .slice ga gs.length gc, .slice ta ss.length tc] 26)).alloc (.cells #[.bool false, .slice none 0 0] 28)) = V at *
    go_wp2_with fail
    refine (isStore_any s sa sc _).mono ?_
    rintro e w0 ⟨rfl, hw0⟩
    rw [hw0, hd8.out]
    clear hw0
    go_wp2
    refine bodyPost_ret (v := .tuple #[.slice none 0 0, .agg #[.bool false, .slice none 0 0], .int .i64 1]) (by simp [results, Try.results12, go_sem, y3, y4]) rfl ⟨none, 0, none, 0, rfl, fun i hi => absurd hi (by simp), fun i hi => absurd hi (by simp), ?_⟩
    exact grow_set (grow_set VB.out (by simp) _) (by simp) _
end Go.Proofs.Ytfogphljilgogaa
