/-
  GraphTrue walked: if one clashes with the other, the other clashes with it; there is an edge just where two clash; one clashes with itself.
  Conditions: the arguments can be read.
-/
import Derived.Test.YtikolifbljnokaaGraphG
import Derived.WalkKit
import Derived.WalkSpells
import Derived.WalkLawsBesides
import Derived.ProofKit
import Derived.Deep.RegionHeld3
import Derived.BigQuiet
import Derived.Deep.RegionLaw
import Derived.Deep.DeepCutAuto
namespace Go.Proofs.Ytikolifbljnokaa
open Go.RowKit

theorem edgesIn_mem (l : List TxA) (i : Nat) (p : Nat × Nat) : ∀ m, p ∈ edgesIn l i m ↔ p.1 = i ∧ i < p.2 ∧ p.2 < m ∧ clashX (gX l i) (gX l p.2) = true
  | 0 => by simp [edgesIn]
  | m + 1 => by
    rw [edgesIn, List.mem_append, edgesIn_mem l i p m]
    constructor
    · rintro (⟨h1, h2, h3, h4⟩ | h)
      · exact ⟨h1, h2, by omega, h4⟩
      · split at h
        · rename_i hc
          rw [List.mem_singleton] at h
          subst h
          exact ⟨rfl, hc.1, by simp, hc.2⟩
        · cases h
    · rintro ⟨h1, h2, h3, h4⟩
      by_cases e : p.2 = m
      · right
        rw [← e, if_pos ⟨h2, h4⟩, List.mem_singleton, ← h1]
      · exact .inl ⟨h1, h2, by omega, h4⟩
theorem edgesTo_mem (l : List TxA) (p : Nat × Nat) : ∀ n, p ∈ edgesTo l n ↔ p.1 < n ∧ p.1 < p.2 ∧ p.2 < l.length ∧ clashX (gX l p.1) (gX l p.2) = true
  | 0 => by simp [edgesTo]
  | n + 1 => by
    rw [edgesTo, List.mem_append, edgesTo_mem l p n, edgesIn_mem]
    constructor
    · rintro (⟨h1, h2⟩ | ⟨h1, h2, h3, h4⟩)
      · exact ⟨by omega, h2⟩
      · rw [← h1] at h2 h4
        exact ⟨by omega, h2, h3, h4⟩
    · rintro ⟨h1, h2, h3, h4⟩
      by_cases e : p.1 = n
      · right
        rw [← e]
        exact ⟨rfl, h2, h3, h4⟩
      · exact .inl ⟨by omega, h2, h3, h4⟩
def hasE (L : List (Nat × Nat)) (i j : Nat) : Bool := L.any fun p => p == (i, j)
theorem hasE_step (L : List (Nat × Nat)) (i j k : Nat) (h : k < L.length) : hasE (L.take (k + 1)) i j = (hasE (L.take k) i j || L.getD k (0, 0) == (i, j)) := by
  unfold hasE
  rw [List.take_succ_eq_append_getElem h, List.any_append]
  simp [List.getD, h]
theorem hasE_is (l : List TxA) (i j : Nat) (hi : i < l.length) (hj : j < l.length) : hasE (edgesL l) i j = (clashX (gX l i) (gX l j) && decide (i < j)) := by
  rw [Bool.eq_iff_iff]
  unfold hasE
  rw [List.any_eq_true, Bool.and_eq_true, decide_eq_true_eq]
  constructor
  · rintro ⟨p, hp, e⟩
    have e' : p = (i, j) := by simpa using e
    subst e'
    have h := (edgesTo_mem l (i, j) l.length).1 hp
    exact ⟨h.2.2.2, h.2.1⟩
  · rintro ⟨h1, h2⟩
    exact ⟨(i, j), (edgesTo_mem l (i, j) l.length).2 ⟨hi, h2, hj, h1⟩, by simp⟩

variable (la : Option Addr) (lc : Nat) (l : List TxA) (a b0 : Int)

set_option maxRecDepth 100000 in
set_option maxHeartbeats 8000000 in
theorem graphTrue_walk (w : World) (hl : IsTxs w la l) (ha : (Lit.int .i64 a).wf = true) (hb : (Lit.int .i64 b0).wf = true) :
    Calls Try.prog 4 #[.slice la l.length lc, .int .i64 a, .int .i64 b0] w fun e w' => e = .returned (.bool true) ∧ Below w.heap.size w w' := by
  have HL : Hid (IsTxs w la l) := hl
  have HA : Hid ((Lit.int .i64 a).wf = true) := ha
  have HB : Hid ((Lit.int .i64 b0).wf = true) := hb
  have ED : Hid (∀ w, IsTxs w la l → Calls Try.prog 12 #[.slice la l.length lc] w fun e w' => ∃ a c, e = .returned (.tuple #[.slice a (edE l).length c, .int .i64 (chkL l)]) ∧ Hid (IsEds w' a (edE l)) ∧ Below w.heap.size w w') := edges_any la lc l
  clear hl ha hb
  by_cases hz : chkL l = 0 ∧ 0 < l.length
  · obtain ⟨hE, h0⟩ := hz
    have hl8 := chkL_small hE
    have HE : Hid (chkL l = 0) := hE
    have hed : Hid (edE l = edgesL l) := if_pos hE
    have hlen0 : ((l.length : Int) == 0) = false := beq_false_of_ne (by omega)
    clear hE
    go_enter Try.func4, Try.ntmps4
    go_wp2_with fail
    refine (ED.out _ HL.out).mono ?_
    rintro e w1 ⟨ea, ec, rfl, hEd, b1⟩
    rw [HE.out]
    have B1 : Hid (Below w.heap.size w w1) := b1
    clear b1 ED
    have EL : Hid ((edE l).length ≤ 64) := by
      show _ ≤ _
      rw [hed.out]
      have h1 := edgesTo_len l l.length
      have h2 : l.length * l.length ≤ 8 * 8 := Nat.mul_le_mul hl8 hl8
      unfold edgesL
      omega
    go_wp2_with fail
    refine (choose_any a l.length _ HA.out h0 (by omega)).mono ?_
    rintro e w2 ⟨i, hi, rfl, rfl⟩
    go_wp2_with fail
    refine (choose_any b0 l.length _ HB.out h0 (by omega)).mono ?_
    rintro e w3 ⟨j, hj, rfl, rfl⟩
    obtain ⟨b, off, rfl, _, e0, e1, e2, hx⟩ := HL.out i hi
    obtain ⟨b', off', hbe, _, f0, f1, f2, hy⟩ := HL.out j hj
    injection hbe with hbe
    injection hbe with q1 q2 _
    subst q1 q2
    have d0 := ext_cell B1.out e0
    have d1 := ext_cell B1.out e1
    have d2 := ext_cell B1.out e2
    have d3 := ext_cell B1.out f0
    have d4 := ext_cell B1.out f1
    have d5 := ext_cell B1.out f2
    have HX : Hid (IsX w3 (l.getD i x0)) := hx.below B1.out
    have HY : Hid (IsX w3 (l.getD j x0)) := hy.below B1.out
    have CX : Hid (chkX (l.getD i x0) = 0) := chkL_at0 HE.out i hi
    have CY : Hid (chkX (l.getD j x0) = 0) := chkL_at0 HE.out j hj
    have HH : Hid (hasE (edgesL l) i j = (clashX (gX l i) (gX l j) && decide (i < j))) := hasE_is l i j hi hj
    have C1 : Hid (∀ w', Below w3.heap.size w3 w' → Calls Try.prog 11 #[.agg #[.slice (l.getD i x0).ra (l.getD i x0).rs.length (l.getD i x0).rc, .slice (l.getD i x0).ga (l.getD i x0).gs.length (l.getD i x0).gc, .slice (l.getD i x0).sa (l.getD i x0).ss.length (l.getD i x0).sc], .agg #[.slice (l.getD j x0).ra (l.getD j x0).rs.length (l.getD j x0).rc, .slice (l.getD j x0).ga (l.getD j x0).gs.length (l.getD j x0).gc, .slice (l.getD j x0).sa (l.getD j x0).ss.length (l.getD j x0).sc]] w' fun e w'' => e = .returned (.tuple #[.bool (clashX (gX l i) (gX l j)), .int .i64 0]) ∧ Below w'.heap.size w' w'') := fun w' hb => clash_ok _ _ w' (HX.out.below hb) (HY.out.below hb) CX.out CY.out
    have C2 : Hid (∀ w', Below w3.heap.size w3 w' → Calls Try.prog 11 #[.agg #[.slice (l.getD j x0).ra (l.getD j x0).rs.length (l.getD j x0).rc, .slice (l.getD j x0).ga (l.getD j x0).gs.length (l.getD j x0).gc, .slice (l.getD j x0).sa (l.getD j x0).ss.length (l.getD j x0).sc], .agg #[.slice (l.getD i x0).ra (l.getD i x0).rs.length (l.getD i x0).rc, .slice (l.getD i x0).ga (l.getD i x0).gs.length (l.getD i x0).gc, .slice (l.getD i x0).sa (l.getD i x0).ss.length (l.getD i x0).sc]] w' fun e w'' => e = .returned (.tuple #[.bool (clashX (gX l i) (gX l j)), .int .i64 0]) ∧ Below w'.heap.size w' w'') := fun w' hb => by
      rw [clashX_symm]
      exact clash_ok _ _ w' (HY.out.below hb) (HX.out.below hb) CY.out CX.out
    have C3 : Hid (∀ w', Below w3.heap.size w3 w' → Calls Try.prog 11 #[.agg #[.slice (l.getD i x0).ra (l.getD i x0).rs.length (l.getD i x0).rc, .slice (l.getD i x0).ga (l.getD i x0).gs.length (l.getD i x0).gc, .slice (l.getD i x0).sa (l.getD i x0).ss.length (l.getD i x0).sc], .agg #[.slice (l.getD i x0).ra (l.getD i x0).rs.length (l.getD i x0).rc, .slice (l.getD i x0).ga (l.getD i x0).gs.length (l.getD i x0).gc, .slice (l.getD i x0).sa (l.getD i x0).ss.length (l.getD i x0).sc]] w' fun e w'' => e = .returned (.tuple #[.bool true, .int .i64 0]) ∧ Below w'.heap.size w' w'') := fun w' hb => by
      have h := clash_ok _ _ w' (HX.out.below hb) (HX.out.below hb) CX.out CX.out
      rw [clashX_self (good_of CX.out)] at h
      exact h
    clear e0 e1 e2 f0 f1 f2 hx hy HX HY CX CY
    rw [← hed.out] at HH
    generalize hgen : edE l = ed at *
    clear hgen hed
    generalize clashX (gX l i) (gX l j) = c at *
    generalize l.getD i x0 = x at *
    generalize l.getD j x0 = y at *
    obtain ⟨ra, ga, sa, rc, gc, sc, rs, gs, ss⟩ := x
    obtain ⟨ra', ga', sa', rc', gc', sc', rs', gs', ss'⟩ := y
    simp only at d0 d1 d2 d3 d4 d5 C1 C2 C3
    have KS : Hid (∀ w', Below w3.heap.size w3 w' → Below w3.heap.size w3 w' ∧ w'.cell? ⟨b, off + i * 3, none⟩ = some (.slice ra rs.length rc) ∧ w'.cell? ⟨b, off + i * 3 + 1, none⟩ = some (.slice ga gs.length gc) ∧ w'.cell? ⟨b, off + i * 3 + 2, none⟩ = some (.slice sa ss.length sc) ∧ w'.cell? ⟨b, off + j * 3, none⟩ = some (.slice ra' rs'.length rc') ∧ w'.cell? ⟨b, off + j * 3 + 1, none⟩ = some (.slice ga' gs'.length gc') ∧ w'.cell? ⟨b, off + j * 3 + 2, none⟩ = some (.slice sa' ss'.length sc')) := fun w' h => ⟨h, ext_cell h d0, ext_cell h d1, ext_cell h d2, ext_cell h d3, ext_cell h d4, ext_cell h d5⟩
    have i1 : (0 : Int) ≤ (i : Int) := by omega
    have i2 : (i : Int) < (l.length : Int) := by omega
    have i3 : (0 : Int) ≤ (j : Int) := by omega
    have i4 : (j : Int) < (l.length : Int) := by omega
    go_upto_region 5 with fail
    go_region_held3 (fun w' => Below w3.heap.size w3 w' ∧ w'.cell? ⟨b, off + i * 3, none⟩ = some (.slice ra rs.length rc) ∧ w'.cell? ⟨b, off + i * 3 + 1, none⟩ = some (.slice ga gs.length gc) ∧ w'.cell? ⟨b, off + i * 3 + 2, none⟩ = some (.slice sa ss.length sc) ∧ w'.cell? ⟨b, off + j * 3, none⟩ = some (.slice ra' rs'.length rc') ∧ w'.cell? ⟨b, off + j * 3 + 1, none⟩ = some (.slice ga' gs'.length gc') ∧ w'.cell? ⟨b, off + j * 3 + 2, none⟩ = some (.slice sa' ss'.length sc')) ((refine KS.out _ ?_; go_split_ands; repeat (first | assumption | exact Below.refl _ _ | refine grow_drew ?_ | refine grow_alloc ?_ _ | refine grow_trans ?_ (by assumption))))
      (first | (go_at_call 11; refine (C1.out _ ?_).mono ?_; (go_split_ands; assumption); rintro e wa ⟨rfl, hba⟩))
    all_goals (
      go_split_ands
      have BA : Below w3.heap.size w3 wa := by assumption
      obtain ⟨_, d0, d1, d2, d3, d4, d5⟩ := KS.out wa BA
      have KS2 : Hid (∀ w', Below wa.heap.size wa w' → Below wa.heap.size wa w' ∧ w'.cell? ⟨b, off + i * 3, none⟩ = some (.slice ra rs.length rc) ∧ w'.cell? ⟨b, off + i * 3 + 1, none⟩ = some (.slice ga gs.length gc) ∧ w'.cell? ⟨b, off + i * 3 + 2, none⟩ = some (.slice sa ss.length sc) ∧ w'.cell? ⟨b, off + j * 3, none⟩ = some (.slice ra' rs'.length rc') ∧ w'.cell? ⟨b, off + j * 3 + 1, none⟩ = some (.slice ga' gs'.length gc') ∧ w'.cell? ⟨b, off + j * 3 + 2, none⟩ = some (.slice sa' ss'.length sc')) := fun w' h => ⟨h, ext_cell h d0, ext_cell h d1, ext_cell h d2, ext_cell h d3, ext_cell h d4, ext_cell h d5⟩
      have HBA : Hid (Below w3.heap.size w3 wa) := BA
      clear hba BA
      go_upto_region 6 with fail
      go_region_held3 (fun w' => Below wa.heap.size wa w' ∧ w'.cell? ⟨b, off + i * 3, none⟩ = some (.slice ra rs.length rc) ∧ w'.cell? ⟨b, off + i * 3 + 1, none⟩ = some (.slice ga gs.length gc) ∧ w'.cell? ⟨b, off + i * 3 + 2, none⟩ = some (.slice sa ss.length sc) ∧ w'.cell? ⟨b, off + j * 3, none⟩ = some (.slice ra' rs'.length rc') ∧ w'.cell? ⟨b, off + j * 3 + 1, none⟩ = some (.slice ga' gs'.length gc') ∧ w'.cell? ⟨b, off + j * 3 + 2, none⟩ = some (.slice sa' ss'.length sc')) ((refine KS2.out _ ?_; go_split_ands; repeat (first | assumption | exact Below.refl _ _ | refine grow_drew ?_ | refine grow_alloc ?_ _ | refine grow_trans ?_ (by assumption))))
        (first | (go_at_call 11; refine (C2.out _ ?_).mono ?_; (refine grow_trans HBA.out ?_; go_split_ands; assumption); rintro e wb ⟨rfl, hbb⟩))
      all_goals (
        go_split_ands
        have BB : Below wa.heap.size wa wb := by assumption
        obtain ⟨_, d0, d1, d2, d3, d4, d5⟩ := KS2.out wb BB
        have KS3 : Hid (∀ w', Below wb.heap.size wb w' → Below wb.heap.size wb w' ∧ w'.cell? ⟨b, off + i * 3, none⟩ = some (.slice ra rs.length rc) ∧ w'.cell? ⟨b, off + i * 3 + 1, none⟩ = some (.slice ga gs.length gc) ∧ w'.cell? ⟨b, off + i * 3 + 2, none⟩ = some (.slice sa ss.length sc) ∧ w'.cell? ⟨b, off + j * 3, none⟩ = some (.slice ra' rs'.length rc') ∧ w'.cell? ⟨b, off + j * 3 + 1, none⟩ = some (.slice ga' gs'.length gc') ∧ w'.cell? ⟨b, off + j * 3 + 2, none⟩ = some (.slice sa' ss'.length sc')) := fun w' h => ⟨h, ext_cell h d0, ext_cell h d1, ext_cell h d2, ext_cell h d3, ext_cell h d4, ext_cell h d5⟩
        have HBB : Hid (Below w3.heap.size w3 wb) := grow_trans HBA.out BB
        clear hbb BB KS2
        go_upto_region 7 with fail
        go_region_held3 (fun w' => Below wb.heap.size wb w' ∧ w'.cell? ⟨b, off + i * 3, none⟩ = some (.slice ra rs.length rc) ∧ w'.cell? ⟨b, off + i * 3 + 1, none⟩ = some (.slice ga gs.length gc) ∧ w'.cell? ⟨b, off + i * 3 + 2, none⟩ = some (.slice sa ss.length sc) ∧ w'.cell? ⟨b, off + j * 3, none⟩ = some (.slice ra' rs'.length rc') ∧ w'.cell? ⟨b, off + j * 3 + 1, none⟩ = some (.slice ga' gs'.length gc') ∧ w'.cell? ⟨b, off + j * 3 + 2, none⟩ = some (.slice sa' ss'.length sc')) ((refine KS3.out _ ?_; go_split_ands; repeat (first | assumption | exact Below.refl _ _ | refine grow_drew ?_ | refine grow_alloc ?_ _ | refine grow_trans ?_ (by assumption))))
          (first | (go_at_call 11; refine (C3.out _ ?_).mono ?_; (refine grow_trans HBB.out ?_; go_split_ands; assumption); rintro e wc ⟨rfl, hbc⟩))
        all_goals (
          go_split_ands
          have BC : Below wb.heap.size wb wc := by assumption
          have HBC : Hid (Below w3.heap.size w3 wc) := grow_trans HBB.out BC
          have hEc : Hid (IsEds wc ea ed) := hEd.out.below HBC.out
          clear KS3 KS HBB HBA hbc BC C1 C2 C3 hEd
          clear d0 d1 d2 d3 d4 d5
          go_wp2
          go_loopw [17, 18] (fun v i' wr => ∃ k : Nat, k ≤ ed.length ∧ i' = .int .i64 k ∧ v = .bool (hasE (ed.take k) i j) ∧ Hid (Below wc.heap.size wc wr)) (fun _ i' _ => ed.length - (intOf i').toNat)
          case atStart => exact ⟨0, Nat.zero_le _, rfl, rfl, Below.refl _ _⟩
          case round =>
            obtain ⟨k, hk, rfl, rfl, hB⟩ := hrel
            by_cases hlt : k < ed.length
            · obtain ⟨be, oe, rfl, _, k0, k1⟩ := hEc.out k hlt
              have k0 := ext_cell hB.out k0
              have k1 := ext_cell hB.out k1
              have HST : Hid (hasE (ed.take (k + 1)) i j = (hasE (ed.take k) i j || ed.getD k (0, 0) == (i, j))) := hasE_step ed i j k hlt
              have hel : ed.length ≤ 64 := EL.out
              generalize ed.getD k (0, 0) = pr at *
              obtain ⟨z1, z2⟩ := pr
              simp only at k0 k1
              have j1 : (0 : Int) ≤ (k : Int) := by omega
              have j2 : (k : Int) < (ed.length : Int) := by omega
              clear hEc
              cases hcur : hasE (ed.take k) i j with
              | true =>
                have HN : Hid (hasE (ed.take (k + 1)) i j = true) := by show _ = _; rw [HST.out, hcur]; rfl
                clear HST
                go_wp2
                go_roundw
                case rel => exact ⟨k + 1, by omega, by go_num, by rw [HN.out], hB⟩
                case measure => simp [intOf]; omega
              | false =>
                by_cases hz1 : z1 = i
                · by_cases hz2 : z2 = j
                  · have HN : Hid (hasE (ed.take (k + 1)) i j = true) := by show _ = _; rw [HST.out, hz1, hz2]; simp
                    clear HST
                    subst hz1 hz2
                    go_wp2
                    go_roundw
                    case rel => exact ⟨k + 1, by omega, by go_num, by rw [HN.out], hB⟩
                    case measure => simp [intOf]; omega
                  · have HN : Hid (hasE (ed.take (k + 1)) i j = false) := by show _ = _; rw [HST.out, hcur]; simp [hz2]
                    have hz3 : ((z2 : Int) == (j : Int)) = false := by simp; omega
                    clear HST
                    subst hz1
                    go_wp2
                    go_roundw
                    case rel => exact ⟨k + 1, by omega, by go_num, by rw [HN.out], hB⟩
                    case measure => simp [intOf]; omega
                · have HN : Hid (hasE (ed.take (k + 1)) i j = false) := by show _ = _; rw [HST.out, hcur]; simp [hz1]
                  have hz3 : ((z1 : Int) == (i : Int)) = false := by simp; omega
                  clear HST
                  go_wp2
                  go_roundw
                  case rel => exact ⟨k + 1, by omega, by go_num, by rw [HN.out], hB⟩
                  case measure => simp [intOf]; omega
            · have hkk : k = ed.length := by omega
              have HF : Hid (hasE (ed.take k) i j = (c && decide (i < j))) := by
                show _ = _
                rw [hkk, List.take_of_length_le (Nat.le_refl _)]
                exact HH.out
              rw [HF.out]
              have BW : Hid (Below w.heap.size w wr) := grow_trans B1.out (grow_trans HBC.out hB.out)
              clear HF HH hEc hB HBC B1
              go_wp2_with fail
              refine (graphBegun_any _).mono ?_
              rintro e v1 ⟨rfl, c4⟩
              have R : Hid (Below w.heap.size w v1) := grow_trans BW.out c4
              clear c4 BW
              cases c with
              | true =>
                by_cases hij : i < j
                · have hij' : (i : Int) < (j : Int) := by omega
                  have hd : decide (i < j) = true := by simp [hij]
                  rw [hd]
                  go_wp2
                  go_ret
                  exact ⟨by first | rfl | simp, R.out⟩
                · have hij' : ¬ (i : Int) < (j : Int) := by omega
                  have hd : decide (i < j) = false := by simp [hij]
                  rw [hd]
                  go_wp2
                  go_ret
                  exact ⟨by first | rfl | simp, R.out⟩
              | false =>
                go_wp2
                go_ret
                exact ⟨by first | rfl | simp, R.out⟩)))
  · go_enter Try.func4, Try.ntmps4
    go_wp2_with fail
    refine (ED.out _ HL.out).mono ?_
    rintro e w1 ⟨ea, ec, rfl, _, b1⟩
    have B1 : Hid (Below w.heap.size w w1) := b1
    clear b1 ED
    by_cases hE : chkL l = 0
    · have hlen0 : ((l.length : Int) == 0) = true := by
        have : ¬ 0 < l.length := fun h => hz ⟨hE, h⟩
        exact beq_iff_eq.2 (by omega)
      rw [hE]
      clear hz hE
      go_wp2_with fail
      refine (graphBegun_any _).mono ?_
      rintro e v1 ⟨rfl, c4⟩
      have R : Hid (Below w.heap.size w v1) := grow_trans B1.out c4
      clear c4 B1
      go_wp2
      go_ret
      exact ⟨rfl, R.out⟩
    · have hb : (chkL l != 0) = true := by simpa using hE
      clear hz hE
      go_wp2_with fail
      refine (graphBegun_any _).mono ?_
      rintro e v1 ⟨rfl, c4⟩
      have R : Hid (Below w.heap.size w v1) := grow_trans B1.out c4
      clear c4 B1
      go_wp2
      go_ret
      exact ⟨rfl, R.out⟩
end Go.Proofs.Ytikolifbljnokaa
