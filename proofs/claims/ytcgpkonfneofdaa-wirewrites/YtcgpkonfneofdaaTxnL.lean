/-
  The document's RunOf, of a right transaction: whether all guards hold, a copy of the values, what the sets make of them.
  Conditions: the transaction and the values can be read; it has no error; there are as many values as reads.
-/
import Derived.Test.YtcgpkonfneofdaaTxnK
import Derived.Laws.AppendOwnNone
import Derived.WalkKit
import Derived.WalkSpells
import Derived.WalkLawsBesides
import Derived.Defers
import Derived.Recover
import Derived.ProofKit
import Derived.Deep.RegionHeld
import Derived.Deep.RegionHeld3
import Derived.BigQuiet
namespace Go.Proofs.Ytcgpkonfneofdaa
open Go.RowKit

set_option maxRecDepth 100000 in
theorem allG_all (zs : List Int) : ∀ (l : List Gd), allG zs l = l.all (gHold zs)
  | [] => rfl
  | g :: t => by
    unfold allG
    rw [allG_all zs t, List.all_cons]
    by_cases h : gHold zs g = true
    · rw [if_pos h, h, Bool.true_and]
    · rw [if_neg h]; simp at h; rw [h, Bool.false_and]

set_option maxRecDepth 100000 in
theorem all_take_succ (zs : List Int) (l : List Gd) (k : Nat) (h : k < l.length) : (l.take (k + 1)).all (gHold zs) = ((l.take k).all (gHold zs) && gHold zs (l.getD k g0)) := by
  rw [List.take_succ_eq_append_getElem h, List.all_append]
  simp [List.getD, h]

set_option maxRecDepth 100000 in
theorem ext6b {W w' : World} {p0 p1 p2 p3 p4 p5 : Addr} {v0 v1 v2 v3 v4 v5 : Value} (hb : Below W.heap.size W w') (q0 : W.cell? p0 = some v0) (q1 : W.cell? p1 = some v1) (q2 : W.cell? p2 = some v2) (q3 : W.cell? p3 = some v3) (q4 : W.cell? p4 = some v4) (q5 : W.cell? p5 = some v5) :
    Below W.heap.size W w' ∧ w'.cell? p0 = some v0 ∧ w'.cell? p1 = some v1 ∧ w'.cell? p2 = some v2 ∧ w'.cell? p3 = some v3 ∧ w'.cell? p4 = some v4 ∧ w'.cell? p5 = some v5 := ⟨hb, ext_cell hb q0, ext_cell hb q1, ext_cell hb q2, ext_cell hb q3, ext_cell hb q4, ext_cell hb q5⟩

set_option maxRecDepth 100000 in
theorem rset {wr W2 : World} {R : Nat} {v x y : Value} (q0 : wr.cell? ⟨R, 0, none⟩ = some x) (q1 : wr.cell? ⟨R, 1, none⟩ = some y) (qf : ∀ j, wr.frozen? ⟨R, j, none⟩ = false) (hnx : Below R W2 wr) (w' : World) (hb : Below (wr.setCell ⟨R, 0, none⟩ v).heap.size (wr.setCell ⟨R, 0, none⟩ v) w') :
    w'.cell? ⟨R, 0, none⟩ = some v ∧ w'.cell? ⟨R, 1, none⟩ = some y ∧ (∀ j, w'.frozen? ⟨R, j, none⟩ = false) ∧ Below R W2 w' := by
  have hR : R < wr.heap.size := World.block_lt_of_cell? wr _ q0
  have s0 : (wr.setCell ⟨R, 0, none⟩ v).cell? ⟨R, 0, none⟩ = some v := by simp [go_sem, q0]
  have s1 : (wr.setCell ⟨R, 0, none⟩ v).cell? ⟨R, 1, none⟩ = some y := by simp [go_sem, q1]
  have sf : ∀ j, (wr.setCell ⟨R, 0, none⟩ v).frozen? ⟨R, j, none⟩ = false := fun j => by simp [go_sem, qf]
  have hs : R < (wr.setCell ⟨R, 0, none⟩ v).heap.size := by simpa using hR
  exact ⟨ext_cell hb s0, ext_cell hb s1, fun j => (hb.frozen (p := ⟨R, j, none⟩) hs).trans (sf j), (hnx.setCell (Nat.le_refl _) _).trans (hb.mono (Nat.le_of_lt hs))⟩

set_option maxRecDepth 100000 in
theorem IsAt.belowHi {lo hi : Nat} {w w' : World} {a : Option Addr} {zs : List Int} (h : IsAt lo hi w a zs) (hb : Below hi w w') : IsAt lo hi w' a zs := fun i hi' => by
  obtain ⟨b, off, ha, h1, h2, hc⟩ := h i hi'
  exact ⟨b, off, ha, h1, h2, (hb.cell (p := ⟨b, off + i, none⟩) h2).trans hc⟩

set_option maxRecDepth 100000 in
theorem own_empty (w : World) (s base : Nat) (hs : s = w.heap.size) (hb : base ≤ s) : (w.alloc (.cells #[] 3)).ownsRow base 3 1 (.slice (some ⟨s, 0, none⟩) 0 0) 0 [] := by
  subst hs
  exact World.ownsRow_lit w #[] 0 hb (by decide) rfl

set_option maxRecDepth 100000 in
theorem news_of_ints {w : World} {zs : List Int} {ad : Addr} (hz : IsInts w (some ad) zs) : ∀ (W : World), Below w.heap.size w W → ∀ j u, (zs.map (Value.int .i64))[j]? = some u → W.cell? (ad.add j) = some u := by
  intro W hW j u hj
  have hlt : j < zs.length := by
    have := (List.getElem?_eq_some_iff.1 hj).1
    simpa using this
  obtain ⟨b, off, ha, hb, hc⟩ := hz j hlt
  injection ha with ha
  subst ha
  rw [add_none, hW.cell (p := ⟨b, off + j, none⟩) hb, hc]
  simp [hlt] at hj
  simp [List.getD, hlt, hj]

variable (ra ga sa : Option Addr) (rc gc sc : Nat) (rs : List Int) (gs : List Gd) (ss : List St) (za : Option Addr) (zc : Nat) (zs : List Int)

set_option maxRecDepth 100000 in
set_option maxHeartbeats 8000000 in
theorem runOf_some (ad : Addr) (w : World) (ht : IsTx w ra ga sa rs gs ss) (hz : IsInts w (some ad) zs) (h4 : zs.length ≤ 4) (hlen : zs.length = rs.length) (hg0 : firstNZ (gs.map (gErr rs.length)) = 0) (hs0 : firstNZ (ss.map (sErr rs.length)) = 0) (h3 : ss.length ≤ 3) (hg2 : gs.length ≤ 2) :
    Calls Try.prog 94 #[.agg #[.slice ra rs.length rc, .slice ga gs.length gc, .slice sa ss.length sc], .slice (some ad) zs.length zc] w fun e w' => ∃ va vc ma mc, e = .returned (.tuple #[.agg #[.bool (allG zs gs), .slice va zs.length vc], .slice ma (madeOf zs gs ss).length mc]) ∧ IsAt w.heap.size w'.heap.size w' va zs ∧ IsAt w.heap.size w'.heap.size w' ma (madeOf zs gs ss) ∧ Below w.heap.size w w' := by
  obtain ⟨i0, hi, hz0, hz1, hz2⟩ := info_parts Try.info3
  have HT : Hid (IsTx w ra ga sa rs gs ss) := ht
  have HZ : Hid (IsInts w (some ad) zs) := hz
  have HG : Hid (firstNZ (gs.map (gErr rs.length)) = 0) := hg0
  have HS : Hid (firstNZ (ss.map (sErr rs.length)) = 0) := hs0
  have HL : Hid (zs.length = rs.length) := hlen
  have hnews : ∀ (W : World), Below w.heap.size w W → ∀ j u, (zs.map (Value.int .i64))[j]? = some u → W.cell? (ad.add j) = some u := news_of_ints hz
  have OWN0 := own_empty ((w.alloc (.cells #[.slice ra rs.length rc, .slice ga gs.length gc, .slice sa ss.length sc] 38)).alloc (.cells #[.bool false, .slice none 0 0] 40)) (w.heap.size + 1 + 1) (w.heap.size + 2) (by simp) (by omega)
  have HN0 := hnews (((w.alloc (.cells #[.slice ra rs.length rc, .slice ga gs.length gc, .slice sa ss.length sc] 38)).alloc (.cells #[.bool false, .slice none 0 0] 40)).alloc (.cells #[] 3)) (by repeat (first | assumption | exact Below.refl _ _ | refine grow_drew ?_ | refine grow_alloc ?_ _ | refine grow_trans ?_ (by assumption)))
  have HB0 : w.heap.size + 2 ≤ (((w.alloc (.cells #[.slice ra rs.length rc, .slice ga gs.length gc, .slice sa ss.length sc] 38)).alloc (.cells #[.bool false, .slice none 0 0] 40)).alloc (.cells #[] 3)).heap.size := by simp
  clear ht hz hg0 hs0 hlen hnews
  go_enter Try.func94, Try.ntmps94
  go_wp2_with (first
    | (at_builtin; (refine wpList_append_own _ rfl _ _ 22 rfl (w.heap.size + 2) 3 i0 (.int .i64 0) 1 8 Try.underlying22 hi hz0 hz1 hz2 rfl (by decide) _ 0 [] rfl OWN0 ad zs.length zc (zs.map (Value.int .i64)) rfl (by simp) HN0 (ints_oneCell .i64 zs) (by unfold maxLen; omega) (by omega) HB0 ?_); intro v' w2 hown' hgrow _; obtain ⟨va, vc, hv, hva⟩ := at_of_owns (zs := zs) hown'; rw [hv]; clear hv hown'))
  have BW : Below w.heap.size w w2 := Below.grown (w := ((w.alloc (.cells #[.slice ra rs.length rc, .slice ga gs.length gc, .slice sa ss.length sc] 38)).alloc (.cells #[.bool false, .slice none 0 0] 40)).alloc (.cells #[] 3)) (by repeat (first | assumption | exact Below.refl _ _ | refine grow_drew ?_ | refine grow_alloc ?_ _ | refine grow_trans ?_ (by assumption))) hgrow (by simp; omega) (fun j hj => by have hj' : some (w.heap.size + 1 + 1) = some j := hj; injection hj' with hj'; omega)
  have BW1 : Below (w.heap.size + 2) ((w.alloc (.cells #[.slice ra rs.length rc, .slice ga gs.length gc, .slice sa ss.length sc] 38)).alloc (.cells #[.bool false, .slice none 0 0] 40)) w2 := Below.grown (w := ((w.alloc (.cells #[.slice ra rs.length rc, .slice ga gs.length gc, .slice sa ss.length sc] 38)).alloc (.cells #[.bool false, .slice none 0 0] 40)).alloc (.cells #[] 3)) ((Below.refl _ _).alloc (by simp) _) hgrow (by simp) (fun j hj => by have hj' : some (w.heap.size + 1 + 1) = some j := hj; injection hj' with hj'; omega)
  have b0 : w2.cell? ⟨w.heap.size, 0, none⟩ = some (.slice ra rs.length rc) := (BW1.cell (p := ⟨w.heap.size, 0, none⟩) (by simp)).trans ((World.cell?_alloc_lt _ _ _ (by simp)).trans (by simp))
  have b1 : w2.cell? ⟨w.heap.size, 1, none⟩ = some (.slice ga gs.length gc) := (BW1.cell (p := ⟨w.heap.size, 1, none⟩) (by simp)).trans ((World.cell?_alloc_lt _ _ _ (by simp)).trans (by simp))
  have b2 : w2.cell? ⟨w.heap.size, 2, none⟩ = some (.slice sa ss.length sc) := (BW1.cell (p := ⟨w.heap.size, 2, none⟩) (by simp)).trans ((World.cell?_alloc_lt _ _ _ (by simp)).trans (by simp))
  have e0 : w2.cell? ⟨w.heap.size + 1, 0, none⟩ = some (.bool false) := (BW1.cell (p := ⟨w.heap.size + 1, 0, none⟩) (by simp)).trans (by simp)
  have e1 : w2.cell? ⟨w.heap.size + 1, 1, none⟩ = some (.slice none 0 0) := (BW1.cell (p := ⟨w.heap.size + 1, 1, none⟩) (by simp)).trans (by simp)
  have ef : ∀ j, w2.frozen? ⟨w.heap.size + 1, j, none⟩ = false := fun j => (BW1.frozen (p := ⟨w.heap.size + 1, j, none⟩) (by simp)).trans (by simp)
  have hw2 : w.heap.size + 1 < w2.heap.size := World.block_lt_of_cell? w2 _ e0
  obtain ⟨R, hR⟩ : ∃ R, R = w2.heap.size := ⟨_, rfl⟩
  have U : Below w2.heap.size w2 (w2.alloc (.cells #[.bool true, .slice va zs.length vc] 40)) := grow_alloc (Below.refl _ _) _
  have r0 : (w2.alloc (.cells #[.bool true, .slice va zs.length vc] 40)).cell? ⟨R, 0, none⟩ = some (.bool true) := by rw [hR]; simp
  have r1 : (w2.alloc (.cells #[.bool true, .slice va zs.length vc] 40)).cell? ⟨R, 1, none⟩ = some (.slice va zs.length vc) := by rw [hR]; simp
  have rf : ∀ j, (w2.alloc (.cells #[.bool true, .slice va zs.length vc] 40)).frozen? ⟨R, j, none⟩ = false := fun j => by rw [hR]; simp
  have hvaR : IsAt (w.heap.size + 2) R (w2.alloc (.cells #[.bool true, .slice va zs.length vc] 40)) va zs := by rw [hR]; exact hva.below U
  have BWW : Hid (Below w.heap.size w (w2.alloc (.cells #[.bool true, .slice va zs.length vc] 40))) := grow_trans BW U
  have k0 := ext_cell U b0
  have k1 := ext_cell U b1
  have k2 := ext_cell U b2
  have l0 := ext_cell U e0
  have l1 := ext_cell U e1
  have lf : ∀ j, (w2.alloc (.cells #[.bool true, .slice va zs.length vc] 40)).frozen? ⟨w.heap.size + 1, j, none⟩ = false := fun j => (U.frozen (p := ⟨w.heap.size + 1, j, none⟩) hw2).trans (ef j)
  have hRs : R < (w2.alloc (.cells #[.bool true, .slice va zs.length vc] 40)).heap.size := by rw [hR]; simp
  have hwR : w.heap.size + 1 < R := by omega
  clear hgrow BW BW1 b0 b1 b2 e0 e1 ef U hva OWN0 HN0 HB0 hw2
  go_wp2_with fail
  rw [← hR]
  clear hR
  generalize (w2.alloc (.cells #[.bool true, .slice va zs.length vc] 40)) = W2 at *
  go_loopw [7, 8, 9] (fun i _ _ wr => ∃ k : Nat, k ≤ gs.length ∧ i = .int .i64 k ∧ wr.cell? ⟨R, 0, none⟩ = some (.bool ((gs.take k).all (gHold zs))) ∧ wr.cell? ⟨R, 1, none⟩ = some (.slice va zs.length vc) ∧ (∀ j, wr.frozen? ⟨R, j, none⟩ = false) ∧ Below R W2 wr) (fun i _ _ _ => gs.length - (intOf i).toNat)
  case atStart => exact ⟨0, Nat.zero_le _, rfl, r0, r1, rf, Below.refl _ _⟩
  case round =>
    obtain ⟨k, hk, rfl, q0, q1, qf, hnx⟩ := hrel
    clear r0 r1 rf
    have hRr : R < wr.heap.size := World.block_lt_of_cell? wr _ q0
    have j0 := (hnx.cell (p := ⟨w.heap.size, 0, none⟩) (by show w.heap.size < R; omega)).trans k0
    have j1 := (hnx.cell (p := ⟨w.heap.size, 1, none⟩) (by show w.heap.size < R; omega)).trans k1
    have j2 := (hnx.cell (p := ⟨w.heap.size, 2, none⟩) (by show w.heap.size < R; omega)).trans k2
    have hup : Hid (Below w.heap.size w wr) := BWW.out.trans (hnx.mono (by omega))
    by_cases hlt : k < gs.length
    · obtain ⟨b, off, hga, hb, c0, c1, c2, c3, c4⟩ := HT.out.g k hlt
      subst hga
      have d0 := ext_cell hup.out c0
      have d1 := ext_cell hup.out c1
      have d2 := ext_cell hup.out c2
      have d3 := ext_cell hup.out c3
      have d4 := ext_cell hup.out c4
      have qg := j1
      have hs : Hid ((gs.take (k + 1)).all (gHold zs) = ((gs.take k).all (gHold zs) && gHold zs (gs.getD k g0))) := all_take_succ zs gs k hlt
      have hE := map_zero _ gs g0 HG.out k hlt
      have hIr : Hid (IsInts wr (some ad) zs) := HZ.out.below hup.out
      have i1 : (0 : Int) ≤ (k : Int) := by omega
      have i2 : (k : Int) < (gs.length : Int) := by omega
      clear c0 c1 c2 c3 c4 k0 k1 k2 l0 l1 lf hvaR
      generalize (gs.getD k g0) = s at *
      obtain ⟨kd, ak, an, bk, bn⟩ := s
      simp only at d0 d1 d2 d3 d4
      obtain ⟨xA, xB, xC⟩ := gErr_zero hE
      rw [← HL.out] at xB xC
      have hB : Hid (chkV ak an zs.length = 0) := xB
      have hC : Hid (chkV bk bn zs.length = 0) := xC
      clear hE xA xB xC
      by_cases hD : (gs.take k).all (gHold zs) = true
      · have HD : Hid ((gs.take (k + 1)).all (gHold zs) = (holdV kd (valV ak an zs) (valV bk bn zs))) := by
          have h1 := hs.out
          rw [hD, Bool.true_and] at h1
          exact h1
        rw [hD] at q0
        clear hD hs
        go_wp2_with fail
        go_region_held3 (fun w' => Below wr.heap.size wr w' ∧ w'.cell? ⟨w.heap.size, 1, none⟩ = some (.slice (some ⟨b, off, none⟩) gs.length gc) ∧ w'.cell? ⟨b, off + k * 5, none⟩ = some (.int .i64 kd) ∧ w'.cell? ⟨b, off + k * 5 + 1, none⟩ = some (.int .i64 ak) ∧ w'.cell? ⟨b, off + k * 5 + 2, none⟩ = some (.int .i64 an) ∧ w'.cell? ⟨b, off + k * 5 + 3, none⟩ = some (.int .i64 bk) ∧ w'.cell? ⟨b, off + k * 5 + 4, none⟩ = some (.int .i64 bn)) ((go_split_ands; refine ext6b ?_ qg d0 d1 d2 d3 d4; repeat (first | assumption | exact Below.refl _ _ | refine grow_drew ?_ | refine grow_alloc ?_ _ | refine grow_trans ?_ (by assumption))))
          (first
            | (go_at_call_of 121 (Value.agg #[.int .i64 ak, .int .i64 an]); refine (valueOf_any ak an zs (some ad) zc _ ?_ hB.out).mono ?_; (refine hIr.out.below ?_; go_split_ands; repeat (first | assumption | exact Below.refl _ _ | refine grow_drew ?_ | refine grow_alloc ?_ _ | refine grow_trans ?_ (by assumption))); rintro e w' ⟨rfl, rfl⟩)
            | (go_at_call_of 121 (Value.agg #[.int .i64 bk, .int .i64 bn]); refine (valueOf_any bk bn zs (some ad) zc _ ?_ hC.out).mono ?_; (refine hIr.out.below ?_; go_split_ands; repeat (first | assumption | exact Below.refl _ _ | refine grow_drew ?_ | refine grow_alloc ?_ _ | refine grow_trans ?_ (by assumption))); rintro e w' ⟨rfl, rfl⟩)
            | (go_at_call 113; refine (holdsOf_any kd (valV ak an zs) (valV bk bn zs) _).mono ?_; rintro e w' ⟨rfl, rfl⟩))
        go_split_ands
        have hX : Below wr.heap.size wr _ := (by assumption)
        have t0 := ext_cell hX q0
        have t1 := ext_cell hX q1
        have tf : ∀ j, World.frozen? _ ⟨R, j, none⟩ = false := fun j => (hX.frozen (p := ⟨R, j, none⟩) hRr).trans (qf j)
        clear hX
        go_wp2
        go_roundw
        case rel =>
          refine ⟨k + 1, by omega, by go_num, ?_⟩
          rw [HD.out]
          exact rset q0 q1 qf hnx _ (grow_drew (grow_alloc (grow_alloc (Below.refl _ _) _) _))
        case measure => simp [intOf]; omega
      · have hD : (gs.take k).all (gHold zs) = false := by simpa using hD
        have HD : Hid ((gs.take (k + 1)).all (gHold zs) = false) := by
          have h1 := hs.out
          rw [hD, Bool.false_and] at h1
          exact h1
        rw [hD] at q0
        clear hD hs
        go_wp2_with fail
        go_region_held3 (fun w' => Below wr.heap.size wr w' ∧ w'.cell? ⟨w.heap.size, 1, none⟩ = some (.slice (some ⟨b, off, none⟩) gs.length gc) ∧ w'.cell? ⟨b, off + k * 5, none⟩ = some (.int .i64 kd) ∧ w'.cell? ⟨b, off + k * 5 + 1, none⟩ = some (.int .i64 ak) ∧ w'.cell? ⟨b, off + k * 5 + 2, none⟩ = some (.int .i64 an) ∧ w'.cell? ⟨b, off + k * 5 + 3, none⟩ = some (.int .i64 bk) ∧ w'.cell? ⟨b, off + k * 5 + 4, none⟩ = some (.int .i64 bn)) ((go_split_ands; refine ext6b ?_ qg d0 d1 d2 d3 d4; repeat (first | assumption | exact Below.refl _ _ | refine grow_drew ?_ | refine grow_alloc ?_ _ | refine grow_trans ?_ (by assumption))))
          (first
            | (go_at_call_of 121 (Value.agg #[.int .i64 ak, .int .i64 an]); refine (valueOf_any ak an zs (some ad) zc _ ?_ hB.out).mono ?_; (refine hIr.out.below ?_; go_split_ands; repeat (first | assumption | exact Below.refl _ _ | refine grow_drew ?_ | refine grow_alloc ?_ _ | refine grow_trans ?_ (by assumption))); rintro e w' ⟨rfl, rfl⟩)
            | (go_at_call_of 121 (Value.agg #[.int .i64 bk, .int .i64 bn]); refine (valueOf_any bk bn zs (some ad) zc _ ?_ hC.out).mono ?_; (refine hIr.out.below ?_; go_split_ands; repeat (first | assumption | exact Below.refl _ _ | refine grow_drew ?_ | refine grow_alloc ?_ _ | refine grow_trans ?_ (by assumption))); rintro e w' ⟨rfl, rfl⟩)
            | (go_at_call 113; refine (holdsOf_any kd (valV ak an zs) (valV bk bn zs) _).mono ?_; rintro e w' ⟨rfl, rfl⟩))
        go_split_ands
        have hX : Below wr.heap.size wr _ := (by assumption)
        have t0 := ext_cell hX q0
        have t1 := ext_cell hX q1
        have tf : ∀ j, World.frozen? _ ⟨R, j, none⟩ = false := fun j => (hX.frozen (p := ⟨R, j, none⟩) hRr).trans (qf j)
        clear hX
        go_wp2
        go_roundw
        case rel =>
          refine ⟨k + 1, by omega, by go_num, ?_⟩
          rw [HD.out]
          exact rset q0 q1 qf hnx _ (grow_drew (grow_alloc (grow_alloc (Below.refl _ _) _) _))
        case measure => simp [intOf]; omega
    · have hA0 : (gs.take k).all (gHold zs) = allG zs gs := by rw [List.take_of_length_le (by omega), allG_all]
      rw [hA0] at q0
      have m0 := (hnx.cell (p := ⟨w.heap.size + 1, 0, none⟩) hwR).trans l0
      have m1 := (hnx.cell (p := ⟨w.heap.size + 1, 1, none⟩) hwR).trans l1
      have mf : ∀ j, wr.frozen? ⟨w.heap.size + 1, j, none⟩ = false := fun j => (hnx.frozen (p := ⟨w.heap.size + 1, j, none⟩) hwR).trans (lf j)
      have hvr : Hid (IsAt (w.heap.size + 2) R wr va zs) := hvaR.belowHi hnx
      clear k0 k1 k2 l0 l1 lf hvaR hA0 hnx hRs
      by_cases hA : allG zs gs = true
      · have hm : madeOf zs gs ss = allS zs ss := by unfold madeOf; rw [if_pos hA]
        have HM : Hid (madeOf zs gs ss = allS zs ss) := hm
        have HA : Hid (allG zs gs = true) := hA
        rw [hA] at q0
        have hal : Hid ((allS zs ss).length = ss.length) := by simp [allS, Hid]
        clear hA hm
        go_wp2_with fail
        obtain ⟨W3, hW3⟩ : ∃ X, X = wr := ⟨wr, rfl⟩
        subst hW3
        go_loopw [10, 11, 12, 13] (fun v i _ _ wx => ∃ k : Nat, k ≤ ss.length ∧ i = .int .i64 k ∧ wx.ownsRow W3.heap.size 3 1 v k (((allS zs ss).take k).map (Value.int .i64)) ∧ Below W3.heap.size W3 wx) (fun _ i _ _ _ => ss.length - (intOf i).toNat)
        case atStart => exact ⟨0, Nat.zero_le _, rfl, World.ownsRow_nil _ _ _ _, Below.refl _ _⟩
        case round =>
          clear hk hlt
          obtain ⟨k, hk, rfl, hown, hnx⟩ := hrel
          have z2 := ext_cell hnx j2
          have hup2 : Hid (Below w.heap.size w wr) := grow_trans hup.out hnx
          have hsz := hnx.size
          by_cases hlt : k < ss.length
          · obtain ⟨b, off, hsa, hb, c0, c1, c2, c3, c4, c5⟩ := HT.out.s k hlt
            subst hsa
            have qs := z2
            have d1 := ext_cell hup2.out c1
            have d2 := ext_cell hup2.out c2
            have d3 := ext_cell hup2.out c3
            have d4 := ext_cell hup2.out c4
            have d5 := ext_cell hup2.out c5
            have hIr : Hid (IsInts wr (some ad) zs) := HZ.out.below hup2.out
            have HTV : Hid ((allS zs ss).take (k + 1) = (allS zs ss).take k ++ [sVal zs (ss.getD k s0)]) := take_vals zs ss k hlt
            have hE := map_zero _ ss s0 HS.out k hlt
            have i1 : (0 : Int) ≤ (k : Int) := by omega
            have i2 : (k : Int) < (ss.length : Int) := by omega
            clear c0 c1 c2 c3 c4 c5 q0 q1 qf m0 m1 mf j0 j1 j2
            generalize (ss.getD k s0) = s at *
            obtain ⟨key, op, ak, an, bk, bn⟩ := s
            simp only at d1 d2 d3 d4 d5
            obtain ⟨xA, xB, xC⟩ := sErr_zero hE
            rw [← HL.out] at xB xC
            have hB : Hid (chkV ak an zs.length = 0) := xB
            have hC : Hid (chkV bk bn zs.length = 0) := xC
            clear hE xA xB xC
            go_wp2_with fail
            go_region_held3 (fun w' => Below wr.heap.size wr w' ∧ w'.cell? ⟨w.heap.size, 2, none⟩ = some (.slice (some ⟨b, off, none⟩) ss.length sc) ∧ w'.cell? ⟨b, off + k * 6 + 1, none⟩ = some (.int .i64 op) ∧ w'.cell? ⟨b, off + k * 6 + 2, none⟩ = some (.int .i64 ak) ∧ w'.cell? ⟨b, off + k * 6 + 3, none⟩ = some (.int .i64 an) ∧ w'.cell? ⟨b, off + k * 6 + 4, none⟩ = some (.int .i64 bk) ∧ w'.cell? ⟨b, off + k * 6 + 5, none⟩ = some (.int .i64 bn)) ((go_split_ands; refine ext6b ?_ qs d1 d2 d3 d4 d5; repeat (first | assumption | exact Below.refl _ _ | refine grow_drew ?_ | refine grow_alloc ?_ _ | refine grow_trans ?_ (by assumption))))
              (first
                | (go_at_call_of 121 (Value.agg #[.int .i64 ak, .int .i64 an]); refine (valueOf_any ak an zs (some ad) zc _ ?_ hB.out).mono ?_; (refine hIr.out.below ?_; go_split_ands; repeat (first | assumption | exact Below.refl _ _ | refine grow_drew ?_ | refine grow_alloc ?_ _ | refine grow_trans ?_ (by assumption))); rintro e w' ⟨rfl, rfl⟩)
                | (go_at_call_of 121 (Value.agg #[.int .i64 bk, .int .i64 bn]); refine (valueOf_any bk bn zs (some ad) zc _ ?_ hC.out).mono ?_; (refine hIr.out.below ?_; go_split_ands; repeat (first | assumption | exact Below.refl _ _ | refine grow_drew ?_ | refine grow_alloc ?_ _ | refine grow_trans ?_ (by assumption))); rintro e w' ⟨rfl, rfl⟩)
                | (go_at_call 115; refine (reckonOf_any op (valV ak an zs) (valV bk bn zs) _).mono ?_; rintro e w' ⟨rfl, rfl⟩))
            go_wp2_with (first | (at_builtin; (refine wpList_append_own _ rfl _ _ 22 rfl W3.heap.size 3 i0 (.int .i64 0) 1 8 Try.underlying22 hi hz0 hz1 hz2 rfl (by decide) _ _ _ rfl (owns_below hown (grow_alloc (grow_drew (grow_alloc (grow_alloc (Below.refl _ _) _) _)) _)) _ 1 1 [.int .i64 (reckV op (valV ak an zs) (valV bk bn zs))] rfl rfl (news_at _ _ _ (by simp)) (ints_oneCell .i64 [_]) (by unfold maxLen; omega) (by omega) (by simp; omega) ?_); intro v' w1 hown' hgrow _) | go_in)
            have R1 : w1.ownsRow W3.heap.size 3 1 v' (k + 1) (((allS zs ss).take (k + 1)).map (Value.int .i64)) := by rw [HTV.out, List.map_append]; exact hown'
            have RB1 : Below W3.heap.size W3 w1 := Below.grown (grow_trans hnx (grow_alloc (grow_drew (grow_alloc (grow_alloc (Below.refl _ _) _) _)) _)) hgrow (by simp; omega) (fun j hj => (hown.lt j hj).1)
            clear hown' hgrow hown hnx
            go_roundw
            case rel => exact ⟨k + 1, by omega, by go_num, R1, RB1⟩
            case measure => simp [intOf]; omega
          · have hkk : k = ss.length := by omega
            rw [hkk, List.take_of_length_le (by rw [hal.out]; exact Nat.le_refl _)] at hown
            obtain ⟨ma, mc, hv, hma⟩ := at_of_owns hown
            rw [hv]
            have n0 := ext_cell hnx m0
            have n1 := ext_cell hnx m1
            have hq3 := World.block_lt_of_cell? W3 _ m0
            have nf : ∀ j, wr.frozen? ⟨w.heap.size + 1, j, none⟩ = false := fun j => (hnx.frozen (p := ⟨w.heap.size + 1, j, none⟩) hq3).trans (mf j)
            have x0 := ext_cell hnx q0
            have x1 := ext_cell hnx q1
            have hvr2 : Hid (IsAt (w.heap.size + 2) R wr va zs) := hvr.out.below hnx
            clear hv hown q0 q1 qf m0 m1 mf j0 j1 j2
            go_wp2
            refine bodyPost_ret (v := .tuple #[.agg #[.bool true, .slice va zs.length vc], .slice ma (allS zs ss).length mc]) (by simp [results, Try.results94, go_sem, n0, n1]) rfl ⟨va, vc, ma, ⟨mc, by rw [HM.out, HA.out]⟩, ?_, ?_, ?_⟩
            · have h1 := (hvr2.out.set ⟨w.heap.size + 1, 0, none⟩ (.bool true) (.inl (by simp))).set ⟨w.heap.size + 1, 1, none⟩ (.slice va zs.length vc) (.inl (by simp))
              exact h1.widen (by omega) (by simp; omega)
            · rw [HM.out]
              have h1 := (hma.set ⟨w.heap.size + 1, 0, none⟩ (.bool true) (.inl hq3)).set ⟨w.heap.size + 1, 1, none⟩ (.slice va zs.length vc) (.inl hq3)
              exact h1.widen hup.out.size (by simp)
            · exact grow_set (grow_set hup2.out (by simp) _) (by simp) _
      · have hm : madeOf zs gs ss = [] := by unfold madeOf; rw [if_neg hA]
        have hA' : allG zs gs = false := by simpa using hA
        have HM : Hid (madeOf zs gs ss = []) := hm
        have HA : Hid (allG zs gs = false) := hA'
        rw [hA'] at q0
        clear hA hA' hm
        go_wp2
        refine bodyPost_ret (v := .tuple #[.agg #[.bool false, .slice va zs.length vc], .slice none 0 0]) (by simp [results, Try.results94, go_sem, m0, m1]) rfl ⟨va, vc, none, 0, by rw [HM.out, HA.out]; rfl, ?_, by rw [HM.out]; exact fun i hi => absurd hi (by simp), ?_⟩
        · have h1 := (hvr.out.set ⟨w.heap.size + 1, 0, none⟩ (.bool false) (.inl (by simp))).set ⟨w.heap.size + 1, 1, none⟩ (.slice va zs.length vc) (.inl (by simp))
          exact h1.widen (by omega) (by simp; omega)
        · exact grow_set (grow_set hup.out (by simp) _) (by simp) _

set_option maxRecDepth 100000 in
set_option maxHeartbeats 8000000 in
theorem runOf_none (w : World) (ht : IsTx w ra ga sa rs gs ss) (hlen : ([] : List Int).length = rs.length) (hg0 : firstNZ (gs.map (gErr rs.length)) = 0) (hs0 : firstNZ (ss.map (sErr rs.length)) = 0) (h3 : ss.length ≤ 3) (hg2 : gs.length ≤ 2) :
    Calls Try.prog 94 #[.agg #[.slice ra rs.length rc, .slice ga gs.length gc, .slice sa ss.length sc], .slice none 0 0] w fun e w' => ∃ va vc ma mc, e = .returned (.tuple #[.agg #[.bool (allG ([] : List Int) gs), .slice va 0 vc], .slice ma (madeOf ([] : List Int) gs ss).length mc]) ∧ IsAt w.heap.size w'.heap.size w' va ([] : List Int) ∧ IsAt w.heap.size w'.heap.size w' ma (madeOf ([] : List Int) gs ss) ∧ Below w.heap.size w w' := by
  obtain ⟨i0, hi, hz0, hz1, hz2⟩ := info_parts Try.info3
  have HT : Hid (IsTx w ra ga sa rs gs ss) := ht
  have HZ : Hid (IsInts w none ([] : List Int)) := fun i hi => absurd hi (by simp)
  have HG : Hid (firstNZ (gs.map (gErr rs.length)) = 0) := hg0
  have HS : Hid (firstNZ (ss.map (sErr rs.length)) = 0) := hs0
  have HL : Hid (([] : List Int).length = rs.length) := hlen
  have OWN0 := own_empty ((w.alloc (.cells #[.slice ra rs.length rc, .slice ga gs.length gc, .slice sa ss.length sc] 38)).alloc (.cells #[.bool false, .slice none 0 0] 40)) (w.heap.size + 1 + 1) (w.heap.size + 2) (by simp) (by omega)
  clear ht hg0 hs0 hlen
  go_enter Try.func94, Try.ntmps94
  go_wp2_with (first
    | (at_builtin; refine wpList_append_own_none rfl _ _ 22 rfl (w.heap.size + 2) 3 i0 1 Try.underlying22 hi _ 0 [] rfl OWN0 rfl ?_))
  obtain ⟨w2, hw2e⟩ : ∃ X, X = (((w.alloc (.cells #[.slice ra rs.length rc, .slice ga gs.length gc, .slice sa ss.length sc] 38)).alloc (.cells #[.bool false, .slice none 0 0] 40)).alloc (.cells #[] 3)) := ⟨_, rfl⟩
  have hgrow : (((w.alloc (.cells #[.slice ra rs.length rc, .slice ga gs.length gc, .slice sa ss.length sc] 38)).alloc (.cells #[.bool false, .slice none 0 0] 40)).alloc (.cells #[] 3)).grownBy w2 (some (w.heap.size + 1 + 1)) := by rw [hw2e]; exact ⟨rfl, rfl, rfl, Nat.le_refl _, fun _ _ _ => rfl⟩
  have HS2 : Hid (w2.heap.size = w.heap.size + 1 + 1 + 1) := by show w2.heap.size = _; rw [hw2e]; simp
  rw [← hw2e]
  clear hw2e
  generalize (some (⟨w.heap.size + 1 + 1, 0, none⟩ : Addr)) = va
  have hva : IsAt (w.heap.size + 2) w2.heap.size w2 va [] := fun i hi => absurd hi (by simp)
  have BW : Below w.heap.size w w2 := Below.grown (w := ((w.alloc (.cells #[.slice ra rs.length rc, .slice ga gs.length gc, .slice sa ss.length sc] 38)).alloc (.cells #[.bool false, .slice none 0 0] 40)).alloc (.cells #[] 3)) (by repeat (first | assumption | exact Below.refl _ _ | refine grow_drew ?_ | refine grow_alloc ?_ _ | refine grow_trans ?_ (by assumption))) hgrow (by simp; omega) (fun j hj => by have hj' : some (w.heap.size + 1 + 1) = some j := hj; injection hj' with hj'; omega)
  have BW1 : Below (w.heap.size + 2) ((w.alloc (.cells #[.slice ra rs.length rc, .slice ga gs.length gc, .slice sa ss.length sc] 38)).alloc (.cells #[.bool false, .slice none 0 0] 40)) w2 := Below.grown (w := ((w.alloc (.cells #[.slice ra rs.length rc, .slice ga gs.length gc, .slice sa ss.length sc] 38)).alloc (.cells #[.bool false, .slice none 0 0] 40)).alloc (.cells #[] 3)) ((Below.refl _ _).alloc (by simp) _) hgrow (by simp) (fun j hj => by have hj' : some (w.heap.size + 1 + 1) = some j := hj; injection hj' with hj'; omega)
  have b0 : w2.cell? ⟨w.heap.size, 0, none⟩ = some (.slice ra rs.length rc) := (BW1.cell (p := ⟨w.heap.size, 0, none⟩) (by simp)).trans ((World.cell?_alloc_lt _ _ _ (by simp)).trans (by simp))
  have b1 : w2.cell? ⟨w.heap.size, 1, none⟩ = some (.slice ga gs.length gc) := (BW1.cell (p := ⟨w.heap.size, 1, none⟩) (by simp)).trans ((World.cell?_alloc_lt _ _ _ (by simp)).trans (by simp))
  have b2 : w2.cell? ⟨w.heap.size, 2, none⟩ = some (.slice sa ss.length sc) := (BW1.cell (p := ⟨w.heap.size, 2, none⟩) (by simp)).trans ((World.cell?_alloc_lt _ _ _ (by simp)).trans (by simp))
  have e0 : w2.cell? ⟨w.heap.size + 1, 0, none⟩ = some (.bool false) := (BW1.cell (p := ⟨w.heap.size + 1, 0, none⟩) (by simp)).trans (by simp)
  have e1 : w2.cell? ⟨w.heap.size + 1, 1, none⟩ = some (.slice none 0 0) := (BW1.cell (p := ⟨w.heap.size + 1, 1, none⟩) (by simp)).trans (by simp)
  have ef : ∀ j, w2.frozen? ⟨w.heap.size + 1, j, none⟩ = false := fun j => (BW1.frozen (p := ⟨w.heap.size + 1, j, none⟩) (by simp)).trans (by simp)
  have hw2 : w.heap.size + 1 < w2.heap.size := World.block_lt_of_cell? w2 _ e0
  obtain ⟨R, hR⟩ : ∃ R, R = w2.heap.size := ⟨_, rfl⟩
  have U : Below w2.heap.size w2 (w2.alloc (.cells #[.bool true, .slice va 0 0] 40)) := grow_alloc (Below.refl _ _) _
  have r0 : (w2.alloc (.cells #[.bool true, .slice va 0 0] 40)).cell? ⟨R, 0, none⟩ = some (.bool true) := by rw [hR]; simp
  have r1 : (w2.alloc (.cells #[.bool true, .slice va 0 0] 40)).cell? ⟨R, 1, none⟩ = some (.slice va 0 0) := by rw [hR]; simp
  have rf : ∀ j, (w2.alloc (.cells #[.bool true, .slice va 0 0] 40)).frozen? ⟨R, j, none⟩ = false := fun j => by rw [hR]; simp
  have hvaR : IsAt (w.heap.size + 2) R (w2.alloc (.cells #[.bool true, .slice va 0 0] 40)) va ([] : List Int) := by rw [hR]; exact hva.below U
  have BWW : Hid (Below w.heap.size w (w2.alloc (.cells #[.bool true, .slice va 0 0] 40))) := grow_trans BW U
  have k0 := ext_cell U b0
  have k1 := ext_cell U b1
  have k2 := ext_cell U b2
  have l0 := ext_cell U e0
  have l1 := ext_cell U e1
  have lf : ∀ j, (w2.alloc (.cells #[.bool true, .slice va 0 0] 40)).frozen? ⟨w.heap.size + 1, j, none⟩ = false := fun j => (U.frozen (p := ⟨w.heap.size + 1, j, none⟩) hw2).trans (ef j)
  have hRs : R < (w2.alloc (.cells #[.bool true, .slice va 0 0] 40)).heap.size := by rw [hR]; simp
  have hwR : w.heap.size + 1 < R := by omega
  clear hgrow BW BW1 b0 b1 b2 e0 e1 ef U hva OWN0 hw2
  go_wp2_with fail
  rw [show w.heap.size + 1 + 1 + 1 = R from by rw [hR, HS2.out]]
  clear hR
  generalize (w2.alloc (.cells #[.bool true, .slice va 0 0] 40)) = W2 at *
  go_loopw [7, 8, 9] (fun i _ _ wr => ∃ k : Nat, k ≤ gs.length ∧ i = .int .i64 k ∧ wr.cell? ⟨R, 0, none⟩ = some (.bool ((gs.take k).all (gHold ([] : List Int)))) ∧ wr.cell? ⟨R, 1, none⟩ = some (.slice va 0 0) ∧ (∀ j, wr.frozen? ⟨R, j, none⟩ = false) ∧ Below R W2 wr) (fun i _ _ _ => gs.length - (intOf i).toNat)
  case atStart => exact ⟨0, Nat.zero_le _, rfl, r0, r1, rf, Below.refl _ _⟩
  case round =>
    obtain ⟨k, hk, rfl, q0, q1, qf, hnx⟩ := hrel
    clear r0 r1 rf
    have hRr : R < wr.heap.size := World.block_lt_of_cell? wr _ q0
    have j0 := (hnx.cell (p := ⟨w.heap.size, 0, none⟩) (by show w.heap.size < R; omega)).trans k0
    have j1 := (hnx.cell (p := ⟨w.heap.size, 1, none⟩) (by show w.heap.size < R; omega)).trans k1
    have j2 := (hnx.cell (p := ⟨w.heap.size, 2, none⟩) (by show w.heap.size < R; omega)).trans k2
    have hup : Hid (Below w.heap.size w wr) := BWW.out.trans (hnx.mono (by omega))
    by_cases hlt : k < gs.length
    · obtain ⟨b, off, hga, hb, c0, c1, c2, c3, c4⟩ := HT.out.g k hlt
      subst hga
      have d0 := ext_cell hup.out c0
      have d1 := ext_cell hup.out c1
      have d2 := ext_cell hup.out c2
      have d3 := ext_cell hup.out c3
      have d4 := ext_cell hup.out c4
      have qg := j1
      have hs : Hid ((gs.take (k + 1)).all (gHold ([] : List Int)) = ((gs.take k).all (gHold ([] : List Int)) && gHold ([] : List Int) (gs.getD k g0))) := all_take_succ ([] : List Int) gs k hlt
      have hE := map_zero _ gs g0 HG.out k hlt
      have hIr : Hid (IsInts wr none ([] : List Int)) := HZ.out.below hup.out
      have i1 : (0 : Int) ≤ (k : Int) := by omega
      have i2 : (k : Int) < (gs.length : Int) := by omega
      clear c0 c1 c2 c3 c4 k0 k1 k2 l0 l1 lf hvaR
      generalize (gs.getD k g0) = s at *
      obtain ⟨kd, ak, an, bk, bn⟩ := s
      simp only at d0 d1 d2 d3 d4
      obtain ⟨xA, xB, xC⟩ := gErr_zero hE
      rw [← HL.out] at xB xC
      have hB : Hid (chkV ak an ((([] : List Int).length : Nat) : Int) = 0) := xB
      have hC : Hid (chkV bk bn ((([] : List Int).length : Nat) : Int) = 0) := xC
      clear hE xA xB xC
      by_cases hD : (gs.take k).all (gHold ([] : List Int)) = true
      · have HD : Hid ((gs.take (k + 1)).all (gHold ([] : List Int)) = (holdV kd (valV ak an ([] : List Int)) (valV bk bn ([] : List Int)))) := by
          have h1 := hs.out
          rw [hD, Bool.true_and] at h1
          exact h1
        rw [hD] at q0
        clear hD hs
        go_wp2_with fail
        go_region_held3 (fun w' => Below wr.heap.size wr w' ∧ w'.cell? ⟨w.heap.size, 1, none⟩ = some (.slice (some ⟨b, off, none⟩) gs.length gc) ∧ w'.cell? ⟨b, off + k * 5, none⟩ = some (.int .i64 kd) ∧ w'.cell? ⟨b, off + k * 5 + 1, none⟩ = some (.int .i64 ak) ∧ w'.cell? ⟨b, off + k * 5 + 2, none⟩ = some (.int .i64 an) ∧ w'.cell? ⟨b, off + k * 5 + 3, none⟩ = some (.int .i64 bk) ∧ w'.cell? ⟨b, off + k * 5 + 4, none⟩ = some (.int .i64 bn)) ((go_split_ands; refine ext6b ?_ qg d0 d1 d2 d3 d4; repeat (first | assumption | exact Below.refl _ _ | refine grow_drew ?_ | refine grow_alloc ?_ _ | refine grow_trans ?_ (by assumption))))
          (first
            | (go_at_call_of 121 (Value.agg #[.int .i64 ak, .int .i64 an]); refine (valueOf_any ak an ([] : List Int) none 0 _ ?_ hB.out).mono ?_; (refine hIr.out.below ?_; go_split_ands; repeat (first | assumption | exact Below.refl _ _ | refine grow_drew ?_ | refine grow_alloc ?_ _ | refine grow_trans ?_ (by assumption))); rintro e w' ⟨rfl, rfl⟩)
            | (go_at_call_of 121 (Value.agg #[.int .i64 bk, .int .i64 bn]); refine (valueOf_any bk bn ([] : List Int) none 0 _ ?_ hC.out).mono ?_; (refine hIr.out.below ?_; go_split_ands; repeat (first | assumption | exact Below.refl _ _ | refine grow_drew ?_ | refine grow_alloc ?_ _ | refine grow_trans ?_ (by assumption))); rintro e w' ⟨rfl, rfl⟩)
            | (go_at_call 113; refine (holdsOf_any kd (valV ak an ([] : List Int)) (valV bk bn ([] : List Int)) _).mono ?_; rintro e w' ⟨rfl, rfl⟩))
        go_split_ands
        have hX : Below wr.heap.size wr _ := (by assumption)
        have t0 := ext_cell hX q0
        have t1 := ext_cell hX q1
        have tf : ∀ j, World.frozen? _ ⟨R, j, none⟩ = false := fun j => (hX.frozen (p := ⟨R, j, none⟩) hRr).trans (qf j)
        clear hX
        go_wp2
        go_roundw
        case rel =>
          refine ⟨k + 1, by omega, by go_num, ?_⟩
          rw [HD.out]
          exact rset q0 q1 qf hnx _ (grow_drew (grow_alloc (grow_alloc (Below.refl _ _) _) _))
        case measure => simp [intOf]; omega
      · have hD : (gs.take k).all (gHold ([] : List Int)) = false := by simpa using hD
        have HD : Hid ((gs.take (k + 1)).all (gHold ([] : List Int)) = false) := by
          have h1 := hs.out
          rw [hD, Bool.false_and] at h1
          exact h1
        rw [hD] at q0
        clear hD hs
        go_wp2_with fail
        go_region_held3 (fun w' => Below wr.heap.size wr w' ∧ w'.cell? ⟨w.heap.size, 1, none⟩ = some (.slice (some ⟨b, off, none⟩) gs.length gc) ∧ w'.cell? ⟨b, off + k * 5, none⟩ = some (.int .i64 kd) ∧ w'.cell? ⟨b, off + k * 5 + 1, none⟩ = some (.int .i64 ak) ∧ w'.cell? ⟨b, off + k * 5 + 2, none⟩ = some (.int .i64 an) ∧ w'.cell? ⟨b, off + k * 5 + 3, none⟩ = some (.int .i64 bk) ∧ w'.cell? ⟨b, off + k * 5 + 4, none⟩ = some (.int .i64 bn)) ((go_split_ands; refine ext6b ?_ qg d0 d1 d2 d3 d4; repeat (first | assumption | exact Below.refl _ _ | refine grow_drew ?_ | refine grow_alloc ?_ _ | refine grow_trans ?_ (by assumption))))
          (first
            | (go_at_call_of 121 (Value.agg #[.int .i64 ak, .int .i64 an]); refine (valueOf_any ak an ([] : List Int) none 0 _ ?_ hB.out).mono ?_; (refine hIr.out.below ?_; go_split_ands; repeat (first | assumption | exact Below.refl _ _ | refine grow_drew ?_ | refine grow_alloc ?_ _ | refine grow_trans ?_ (by assumption))); rintro e w' ⟨rfl, rfl⟩)
            | (go_at_call_of 121 (Value.agg #[.int .i64 bk, .int .i64 bn]); refine (valueOf_any bk bn ([] : List Int) none 0 _ ?_ hC.out).mono ?_; (refine hIr.out.below ?_; go_split_ands; repeat (first | assumption | exact Below.refl _ _ | refine grow_drew ?_ | refine grow_alloc ?_ _ | refine grow_trans ?_ (by assumption))); rintro e w' ⟨rfl, rfl⟩)
            | (go_at_call 113; refine (holdsOf_any kd (valV ak an ([] : List Int)) (valV bk bn ([] : List Int)) _).mono ?_; rintro e w' ⟨rfl, rfl⟩))
        go_split_ands
        have hX : Below wr.heap.size wr _ := (by assumption)
        have t0 := ext_cell hX q0
        have t1 := ext_cell hX q1
        have tf : ∀ j, World.frozen? _ ⟨R, j, none⟩ = false := fun j => (hX.frozen (p := ⟨R, j, none⟩) hRr).trans (qf j)
        clear hX
        go_wp2
        go_roundw
        case rel =>
          refine ⟨k + 1, by omega, by go_num, ?_⟩
          rw [HD.out]
          exact rset q0 q1 qf hnx _ (grow_drew (grow_alloc (grow_alloc (Below.refl _ _) _) _))
        case measure => simp [intOf]; omega
    · have hA0 : (gs.take k).all (gHold ([] : List Int)) = allG ([] : List Int) gs := by rw [List.take_of_length_le (by omega), allG_all]
      rw [hA0] at q0
      have m0 := (hnx.cell (p := ⟨w.heap.size + 1, 0, none⟩) hwR).trans l0
      have m1 := (hnx.cell (p := ⟨w.heap.size + 1, 1, none⟩) hwR).trans l1
      have mf : ∀ j, wr.frozen? ⟨w.heap.size + 1, j, none⟩ = false := fun j => (hnx.frozen (p := ⟨w.heap.size + 1, j, none⟩) hwR).trans (lf j)
      have hvr : Hid (IsAt (w.heap.size + 2) R wr va ([] : List Int)) := hvaR.belowHi hnx
      clear k0 k1 k2 l0 l1 lf hvaR hA0 hnx hRs
      by_cases hA : allG ([] : List Int) gs = true
      · have hm : madeOf ([] : List Int) gs ss = allS ([] : List Int) ss := by unfold madeOf; rw [if_pos hA]
        have HM : Hid (madeOf ([] : List Int) gs ss = allS ([] : List Int) ss) := hm
        have HA : Hid (allG ([] : List Int) gs = true) := hA
        rw [hA] at q0
        have hal : Hid ((allS ([] : List Int) ss).length = ss.length) := by simp [allS, Hid]
        clear hA hm
        go_wp2_with fail
        obtain ⟨W3, hW3⟩ : ∃ X, X = wr := ⟨wr, rfl⟩
        subst hW3
        go_loopw [10, 11, 12, 13] (fun v i _ _ wx => ∃ k : Nat, k ≤ ss.length ∧ i = .int .i64 k ∧ wx.ownsRow W3.heap.size 3 1 v k (((allS ([] : List Int) ss).take k).map (Value.int .i64)) ∧ Below W3.heap.size W3 wx) (fun _ i _ _ _ => ss.length - (intOf i).toNat)
        case atStart => exact ⟨0, Nat.zero_le _, rfl, World.ownsRow_nil _ _ _ _, Below.refl _ _⟩
        case round =>
          clear hk hlt
          obtain ⟨k, hk, rfl, hown, hnx⟩ := hrel
          have z2 := ext_cell hnx j2
          have hup2 : Hid (Below w.heap.size w wr) := grow_trans hup.out hnx
          have hsz := hnx.size
          by_cases hlt : k < ss.length
          · obtain ⟨b, off, hsa, hb, c0, c1, c2, c3, c4, c5⟩ := HT.out.s k hlt
            subst hsa
            have qs := z2
            have d1 := ext_cell hup2.out c1
            have d2 := ext_cell hup2.out c2
            have d3 := ext_cell hup2.out c3
            have d4 := ext_cell hup2.out c4
            have d5 := ext_cell hup2.out c5
            have hIr : Hid (IsInts wr none ([] : List Int)) := HZ.out.below hup2.out
            have HTV : Hid ((allS ([] : List Int) ss).take (k + 1) = (allS ([] : List Int) ss).take k ++ [sVal ([] : List Int) (ss.getD k s0)]) := take_vals ([] : List Int) ss k hlt
            have hE := map_zero _ ss s0 HS.out k hlt
            have i1 : (0 : Int) ≤ (k : Int) := by omega
            have i2 : (k : Int) < (ss.length : Int) := by omega
            clear c0 c1 c2 c3 c4 c5 q0 q1 qf m0 m1 mf j0 j1 j2
            generalize (ss.getD k s0) = s at *
            obtain ⟨key, op, ak, an, bk, bn⟩ := s
            simp only at d1 d2 d3 d4 d5
            obtain ⟨xA, xB, xC⟩ := sErr_zero hE
            rw [← HL.out] at xB xC
            have hB : Hid (chkV ak an ((([] : List Int).length : Nat) : Int) = 0) := xB
            have hC : Hid (chkV bk bn ((([] : List Int).length : Nat) : Int) = 0) := xC
            clear hE xA xB xC
            go_wp2_with fail
            go_region_held3 (fun w' => Below wr.heap.size wr w' ∧ w'.cell? ⟨w.heap.size, 2, none⟩ = some (.slice (some ⟨b, off, none⟩) ss.length sc) ∧ w'.cell? ⟨b, off + k * 6 + 1, none⟩ = some (.int .i64 op) ∧ w'.cell? ⟨b, off + k * 6 + 2, none⟩ = some (.int .i64 ak) ∧ w'.cell? ⟨b, off + k * 6 + 3, none⟩ = some (.int .i64 an) ∧ w'.cell? ⟨b, off + k * 6 + 4, none⟩ = some (.int .i64 bk) ∧ w'.cell? ⟨b, off + k * 6 + 5, none⟩ = some (.int .i64 bn)) ((go_split_ands; refine ext6b ?_ qs d1 d2 d3 d4 d5; repeat (first | assumption | exact Below.refl _ _ | refine grow_drew ?_ | refine grow_alloc ?_ _ | refine grow_trans ?_ (by assumption))))
              (first
                | (go_at_call_of 121 (Value.agg #[.int .i64 ak, .int .i64 an]); refine (valueOf_any ak an ([] : List Int) none 0 _ ?_ hB.out).mono ?_; (refine hIr.out.below ?_; go_split_ands; repeat (first | assumption | exact Below.refl _ _ | refine grow_drew ?_ | refine grow_alloc ?_ _ | refine grow_trans ?_ (by assumption))); rintro e w' ⟨rfl, rfl⟩)
                | (go_at_call_of 121 (Value.agg #[.int .i64 bk, .int .i64 bn]); refine (valueOf_any bk bn ([] : List Int) none 0 _ ?_ hC.out).mono ?_; (refine hIr.out.below ?_; go_split_ands; repeat (first | assumption | exact Below.refl _ _ | refine grow_drew ?_ | refine grow_alloc ?_ _ | refine grow_trans ?_ (by assumption))); rintro e w' ⟨rfl, rfl⟩)
                | (go_at_call 115; refine (reckonOf_any op (valV ak an ([] : List Int)) (valV bk bn ([] : List Int)) _).mono ?_; rintro e w' ⟨rfl, rfl⟩))
            go_wp2_with (first | (at_builtin; (refine wpList_append_own _ rfl _ _ 22 rfl W3.heap.size 3 i0 (.int .i64 0) 1 8 Try.underlying22 hi hz0 hz1 hz2 rfl (by decide) _ _ _ rfl (owns_below hown (grow_alloc (grow_drew (grow_alloc (grow_alloc (Below.refl _ _) _) _)) _)) _ 1 1 [.int .i64 (reckV op (valV ak an ([] : List Int)) (valV bk bn ([] : List Int)))] rfl rfl (news_at _ _ _ (by simp)) (ints_oneCell .i64 [_]) (by unfold maxLen; omega) (by omega) (by simp; omega) ?_); intro v' w1 hown' hgrow _) | go_in)
            have R1 : w1.ownsRow W3.heap.size 3 1 v' (k + 1) (((allS ([] : List Int) ss).take (k + 1)).map (Value.int .i64)) := by rw [HTV.out, List.map_append]; exact hown'
            have RB1 : Below W3.heap.size W3 w1 := Below.grown (grow_trans hnx (grow_alloc (grow_drew (grow_alloc (grow_alloc (Below.refl _ _) _) _)) _)) hgrow (by simp; omega) (fun j hj => (hown.lt j hj).1)
            clear hown' hgrow hown hnx
            go_roundw
            case rel => exact ⟨k + 1, by omega, by go_num, R1, RB1⟩
            case measure => simp [intOf]; omega
          · have hkk : k = ss.length := by omega
            rw [hkk, List.take_of_length_le (by rw [hal.out]; exact Nat.le_refl _)] at hown
            obtain ⟨ma, mc, hv, hma⟩ := at_of_owns hown
            rw [hv]
            have n0 := ext_cell hnx m0
            have n1 := ext_cell hnx m1
            have hq3 := World.block_lt_of_cell? W3 _ m0
            have nf : ∀ j, wr.frozen? ⟨w.heap.size + 1, j, none⟩ = false := fun j => (hnx.frozen (p := ⟨w.heap.size + 1, j, none⟩) hq3).trans (mf j)
            have x0 := ext_cell hnx q0
            have x1 := ext_cell hnx q1
            have hvr2 : Hid (IsAt (w.heap.size + 2) R wr va ([] : List Int)) := hvr.out.below hnx
            clear hv hown q0 q1 qf m0 m1 mf j0 j1 j2
            go_wp2
            refine bodyPost_ret (v := .tuple #[.agg #[.bool true, .slice va 0 0], .slice ma (allS ([] : List Int) ss).length mc]) (by simp [results, Try.results94, go_sem, n0, n1]) rfl ⟨va, 0, ma, ⟨mc, by rw [HM.out, HA.out]⟩, ?_, ?_, ?_⟩
            · have h1 := (hvr2.out.set ⟨w.heap.size + 1, 0, none⟩ (.bool true) (.inl (by simp))).set ⟨w.heap.size + 1, 1, none⟩ (.slice va 0 0) (.inl (by simp))
              exact h1.widen (by omega) (by simp; omega)
            · rw [HM.out]
              have h1 := (hma.set ⟨w.heap.size + 1, 0, none⟩ (.bool true) (.inl hq3)).set ⟨w.heap.size + 1, 1, none⟩ (.slice va 0 0) (.inl hq3)
              exact h1.widen hup.out.size (by simp)
            · exact grow_set (grow_set hup2.out (by simp) _) (by simp) _
      · have hm : madeOf ([] : List Int) gs ss = [] := by unfold madeOf; rw [if_neg hA]
        have hA' : allG ([] : List Int) gs = false := by simpa using hA
        have HM : Hid (madeOf ([] : List Int) gs ss = []) := hm
        have HA : Hid (allG ([] : List Int) gs = false) := hA'
        rw [hA'] at q0
        clear hA hA' hm
        go_wp2
        refine bodyPost_ret (v := .tuple #[.agg #[.bool false, .slice va 0 0], .slice none 0 0]) (by simp [results, Try.results94, go_sem, m0, m1]) rfl ⟨va, 0, none, 0, by rw [HM.out, HA.out]; rfl, ?_, by rw [HM.out]; exact fun i hi => absurd hi (by simp), ?_⟩
        · have h1 := (hvr.out.set ⟨w.heap.size + 1, 0, none⟩ (.bool false) (.inl (by simp))).set ⟨w.heap.size + 1, 1, none⟩ (.slice va 0 0) (.inl (by simp))
          exact h1.widen (by omega) (by simp; omega)
        · exact grow_set (grow_set hup.out (by simp) _) (by simp) _

set_option maxRecDepth 100000 in
theorem runOf_any (w : World) (ht : IsTx w ra ga sa rs gs ss) (hz : IsInts w za zs) (hn : za = none → zc = 0) (h4 : zs.length ≤ 4) (hlen : zs.length = rs.length) (hg0 : firstNZ (gs.map (gErr rs.length)) = 0) (hs0 : firstNZ (ss.map (sErr rs.length)) = 0) (h3 : ss.length ≤ 3) (hg2 : gs.length ≤ 2) :
    Calls Try.prog 94 #[.agg #[.slice ra rs.length rc, .slice ga gs.length gc, .slice sa ss.length sc], .slice za zs.length zc] w fun e w' => ∃ va vc ma mc, e = .returned (.tuple #[.agg #[.bool (allG zs gs), .slice va zs.length vc], .slice ma (madeOf zs gs ss).length mc]) ∧ IsAt w.heap.size w'.heap.size w' va zs ∧ IsAt w.heap.size w'.heap.size w' ma (madeOf zs gs ss) ∧ Below w.heap.size w w' := by
  cases za with
  | none =>
    have hzs : zs = [] := by
      cases zs with
      | nil => rfl
      | cons z t =>
        obtain ⟨b, off, ha, _⟩ := hz 0 (by simp)
        cases ha
    subst hzs
    rw [hn rfl]
    exact runOf_none ra ga sa rc gc sc rs gs ss w ht hlen hg0 hs0 h3 hg2
  | some ad => exact runOf_some ra ga sa rc gc sc rs gs ss zc zs ad w ht hz h4 hlen hg0 hs0 h3 hg2
end Go.Proofs.Ytcgpkonfneofdaa
