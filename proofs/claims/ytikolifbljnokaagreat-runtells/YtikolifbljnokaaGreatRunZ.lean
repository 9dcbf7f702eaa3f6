/-
  The document's CheckPicks: are these picks that may be, and all of them?
  Conditions: the arguments can be read.
-/
import Derived.Test.YtikolifbljnokaaGreatRunB
import Derived.Test.YtikolifbljnokaaGreatLocksG
import Derived.OwnWalk
import Derived.Laws.OwnMore
import Derived.WalkKit
import Derived.WalkSpells
import Derived.WalkLawsBesides
import Derived.ProofKit
import Derived.Deep.RegionHeld3
import Derived.BigQuiet
import Derived.Test.YtikolifbljnokaaGreatRunF
import Derived.Deep.RegionHeld
import Derived.Deep.RegionLaw
namespace Go.Proofs.YtikolifbljnokaaGreat
open Go.RowKit

theorem leftE_cnt (done : List Bool) : leftE done = if 0 < cnt done then 8 else 0 := by
  unfold leftE
  by_cases h : false ∈ done
  · rw [if_pos h, if_pos ((cnt_pos done).2 h)]
  · rw [if_neg h, if_neg (fun c => h ((cnt_pos done).1 c))]
theorem cnt_le (done : List Bool) : cnt done ≤ done.length := List.count_le_length

variable (sa : Option Addr) (sc : Nat) (s : List Int) (la : Option Addr) (lc : Nat) (l : List TxA) (pa : Option Addr) (pc : Nat) (picks : List Int)

set_option maxRecDepth 100000 in
set_option maxHeartbeats 8000000 in
theorem picksDoc_any (w : World) (hl : IsTxs w la l) (hp : IsInts w pa picks) :
    Calls Tryz.prog 5 #[.slice sa s.length sc, .slice la l.length lc, .slice pa picks.length pc] w fun e w' => e = .returned (.int .i64 (ckE s l picks)) ∧ Below w.heap.size w w' := by
  obtain ⟨i0, hi, hz0, hz1, hz2⟩ := info_parts Tryz.info4
  have HL : Hid (IsTxs w la l) := hl
  have HPk : Hid (IsInts w pa picks) := hp
  clear hl hp
  by_cases h8 : s.length = 8
  · have IS : Hid (∀ w', Calls Tryz.prog 12 #[.slice sa s.length sc] w' fun e w'' => e = .returned (.bool true) ∧ Below w'.heap.size w' w'') := fun w' => (isStore_any s sa sc w').mono fun e w'' ⟨h1, h2⟩ => ⟨by rw [h1]; simp [h8], by rw [h2]; exact Below.refl _ _⟩
    have hlen0 : lenR s = 0 := if_pos h8
    clear h8
    have CT : Hid (∀ w', Below w.heap.size w w' → Calls Tryz.prog 13 #[.slice la l.length lc] w' fun e w'' => e = .returned (.int .i64 (chkL l)) ∧ Below w'.heap.size w' w'') := fun w' h => checkTxns_any la lc l w' (HL.out.below h)
    by_cases hC : chkL l = 0
    · by_cases hm : 200 < picks.length
      · have HV : Hid (ckE s l picks = 2) := by
          have hpr : prE s l picks = 2 := by
            unfold prE mnE
            rw [hlen0, hC, if_pos hm]
            rfl
          show _ = _
          unfold ckE
          rw [hpr]
          rfl
        rw [hC] at CT
        have hm' : (200 : Int) < (picks.length : Int) := by omega
        clear hlen0 hC hm HL HPk
        go_enter Tryz.func5, Tryz.ntmps5
        go_wp2_with fail
        refine (IS.out _).mono ?_
        rintro e w1 ⟨rfl, b1⟩
        have B1 : Hid (Below w.heap.size w w1) := b1
        clear b1 IS
        go_wp2_with fail
        refine (CT.out _ B1.out).mono ?_
        rintro e w2 ⟨rfl, b2⟩
        have B2 : Hid (Below w.heap.size w w2) := grow_trans B1.out b2
        clear b2 B1 CT
        go_wp2
        go_ret
        exact ⟨by rw [HV.out]; rfl, B2.out⟩
      · have hpr : prE s l picks = 0 := by
          unfold prE mnE
          rw [hlen0, hC, if_neg hm]
          rfl
        have hl8 := chkL_small hC
        have HV : Hid (ckE s l picks = (if pkE l (d0 l) picks = 0 then leftE (dnP (d0 l) picks) else pkE l (d0 l) picks)) := if_pos hpr
        have HM : Hid ((madeCells (Value.bool false).cells (l.length * 1)).toList = (dnP (d0 l) (picks.take 0)).map Value.bool) := made_boolsR l.length hl8
        have HAT : Hid (∀ k, k < picks.length → pkE l (d0 l) (picks.take k) = 0 → (¬ pick1 l (dnP (d0 l) (picks.take k)) (picks.getD k 0) = 0 → pkE l (d0 l) picks = pick1 l (dnP (d0 l) (picks.take k)) (picks.getD k 0)) ∧ (pick1 l (dnP (d0 l) (picks.take k)) (picks.getD k 0) = 0 → pkE l (d0 l) (picks.take (k + 1)) = 0 ∧ dnP (d0 l) (picks.take (k + 1)) = (dnP (d0 l) (picks.take k)).set (picks.getD k 0).toNat true)) := fun k hk h0 => pkE_at l (d0 l) picks k hk h0
        have HDL : Hid (∀ k, (dnP (d0 l) (picks.take k)).length = l.length) := fun k => by
          show _ = _
          rw [dnP_len]
          simp [d0]
        have HBAD : Hid (∀ k, k < picks.length → pkE l (d0 l) (picks.take k) = 0 → ∀ c : Int, ¬ c = 0 → pick1 l (dnP (d0 l) (picks.take k)) (picks.getD k 0) = c → ckE s l picks = c) := fun k hk h0 c hc he => by
          have h1 := (HAT.out k hk h0).1 (by rw [he]; exact hc)
          rw [HV.out, h1, he, if_neg hc]
        have HGOOD : Hid (pkE l (d0 l) picks = 0 → ckE s l picks = if 0 < cnt (dnP (d0 l) picks) then 8 else 0) := fun h => by
          rw [HV.out, if_pos h, leftE_cnt]
        have CRY : Hid (∀ (k g y : Nat) (w' : World), y < l.length → Below w.heap.size w w' → IsBools w' (some ⟨g, 0, none⟩) (dnP (d0 l) (picks.take k)) → Calls Tryz.prog 15 #[.slice la l.length lc, (.slice (some ⟨g, 0, none⟩) l.length l.length), .int .i64 y] w' fun e w'' => e = .returned (.bool (readyX l (dnP (d0 l) (picks.take k)) y)) ∧ Below w'.heap.size w' w'') := fun k g y w' hy h1 h2 => by
          have h := docReady_any la lc l (some ⟨g, 0, none⟩) l.length (dnP (d0 l) (picks.take k)) y hy w' (HL.out.below h1) h2 (HDL.out k) hl8
          rw [HDL.out k] at h
          exact h
        have HK0 : Hid (pkE l (d0 l) (picks.take 0) = 0) := rfl
        have HC0 : Hid (((cnt (dnP (d0 l) (picks.take 0)) : Nat) : Int) = (l.length : Int)) := by
          show _ = _
          rw [show (dnP (d0 l) (picks.take 0)) = List.replicate l.length false from rfl, cnt_rep]
        rw [hC] at CT
        have hm' : ¬ (200 : Int) < (picks.length : Int) := by omega
        have hpl : picks.length ≤ 200 := by omega
        clear hlen0 hC hm hpr HV
        go_enter Tryz.func5, Tryz.ntmps5
        go_wp2_with fail
        refine (IS.out _).mono ?_
        rintro e w1 ⟨rfl, b1⟩
        have B1 : Hid (Below w.heap.size w w1) := b1
        clear b1 IS
        go_wp2_with fail
        refine (CT.out _ B1.out).mono ?_
        rintro e w2 ⟨rfl, b2⟩
        have B2 : Hid (Below w.heap.size w w2) := grow_trans B1.out b2
        clear b2 B1 CT
        go_upto_region 9 with (first | (at_make; refine wpList_make_full _ rfl _ _ 44 rfl w2.heap.size 4 i0 (.bool false) 1 Tryz.underlying44 hi hz0 hz1 .i64 .i64 _ _ l.length rfl rfl rfl rfl (by rw [hz2]; omega) (by unfold maxLen; omega) (by simp) ?_; intro w3 hown hgrow) | fail)
        rw [HM.out] at hown
        have U3 := Below.grown (Below.refl w2.heap.size w2) hgrow (by omega) (fun j hj => by cases hj)
        have hm0 : Hid (w3.ownsRow w2.heap.size 4 1 (.slice (some ⟨w2.heap.size, 0, none⟩) l.length l.length) l.length ((dnP (d0 l) (picks.take 0)).map Value.bool)) := hown
        have BW3 : Hid (Below w.heap.size w w3) := grow_trans B2.out U3
        have hwg : w.heap.size ≤ w2.heap.size := B2.out.size
        clear hown hgrow HM U3 B2
        generalize w2.heap.size = g at *
        go_wp2
        go_loopw [9, 10, 11] (fun v i _ wr => ∃ k : Nat, k ≤ picks.length ∧ i = .int .i64 k ∧ v = .int .i64 ((cnt (dnP (d0 l) (picks.take k)) : Nat) : Int) ∧ Hid (pkE l (d0 l) (picks.take k) = 0) ∧ Hid (wr.ownsRow g 4 1 (.slice (some ⟨g, 0, none⟩) l.length l.length) l.length ((dnP (d0 l) (picks.take k)).map Value.bool)) ∧ Hid (Below w.heap.size w wr)) (fun _ i _ _ => picks.length - (intOf i).toNat)
        case atStart => exact ⟨0, Nat.zero_le _, rfl, by rw [HC0.out], HK0, hm0, BW3⟩
        case round =>
          clear hm0 BW3
          obtain ⟨k, hk, rfl, rfl, hP0, hown, hB⟩ := hrel
          by_cases hlt : k < picks.length
          · obtain ⟨b, off, rfl, _, c0⟩ := HPk.out k hlt
            have e0 := ext_cell hB.out c0
            have HYk := (HAT.out k hlt hP0.out).2
            have HY : Hid (pick1 l (dnP (d0 l) (picks.take k)) (picks.getD k 0) = 0 → pkE l (d0 l) (picks.take (k + 1)) = 0 ∧ dnP (d0 l) (picks.take (k + 1)) = (dnP (d0 l) (picks.take k)).set (picks.getD k 0).toNat true) := HYk
            have HN : Hid (∀ c : Int, ¬ c = 0 → pick1 l (dnP (d0 l) (picks.take k)) (picks.getD k 0) = c → ckE s l picks = c) := HBAD.out k hlt hP0.out
            have hcl : cnt (dnP (d0 l) (picks.take k)) ≤ 8 := by
              have h1 := cnt_le (dnP (d0 l) (picks.take k))
              rw [HDL.out k] at h1
              omega
            clear c0 HYk
            generalize picks.getD k 0 = z at *
            have j1 : (0 : Int) ≤ (k : Int) := by omega
            have j2 : (k : Int) < (picks.length : Int) := by omega
            by_cases hr : z < 0 ∨ (l.length : Int) ≤ z
            · have HW : Hid (∀ w', Calls Tryz.prog 14 #[.int .i64 z, .int .i64 0, .int .i64 ((l.length : Int) - 1)] w' fun e w'' => e = .returned (.bool false) ∧ Below w'.heap.size w' w'') := fun w' => (within_any z 0 ((l.length : Int) - 1) w').mono fun e w'' ⟨h1, h2⟩ => ⟨by rw [h1, show (decide ((0 : Int) ≤ z) && decide (z ≤ (l.length : Int) - 1)) = false from by rcases hr with h | h <;> simp <;> omega], by rw [h2]; exact Below.refl _ _⟩
              have HE : Hid (ckE s l picks = 5) := HN.out 5 (by decide) (if_pos hr)
              clear hr HY HN
              go_wp2_with fail
              refine (HW.out _).mono ?_
              rintro e u1 ⟨rfl, c1⟩
              have B1 : Hid (Below w.heap.size w u1) := grow_trans hB.out c1
              clear c1 hB HW hown e0
              go_wp2
              go_ret
              exact ⟨by rw [HE.out]; rfl, B1.out⟩
            · obtain ⟨y, rfl⟩ := Int.eq_ofNat_of_zero_le (a := z) (by omega)
              have hyl : y < l.length := by omega
              have HW : Hid (∀ w', Calls Tryz.prog 14 #[.int .i64 (y : Int), .int .i64 0, .int .i64 ((l.length : Int) - 1)] w' fun e w'' => e = .returned (.bool true) ∧ Below w'.heap.size w' w'') := fun w' => (within_any (y : Int) 0 ((l.length : Int) - 1) w').mono fun e w'' ⟨h1, h2⟩ => ⟨by rw [h1, show (decide ((0 : Int) ≤ (y : Int)) && decide ((y : Int) ≤ (l.length : Int) - 1)) = true from by simp; omega], by rw [h2]; exact Below.refl _ _⟩
              have HP1 : Hid (pick1 l (dnP (d0 l) (picks.take k)) (y : Int) = if dn (dnP (d0 l) (picks.take k)) y = true then 7 else if readyX l (dnP (d0 l) (picks.take k)) y = true then 0 else 6) := by
                show _ = _
                unfold pick1
                rw [if_neg hr, Int.toNat_natCast]
              have CY : Hid (∀ w', Below w.heap.size w w' → IsBools w' (some ⟨g, 0, none⟩) (dnP (d0 l) (picks.take k)) → Calls Tryz.prog 15 #[.slice la l.length lc, (.slice (some ⟨g, 0, none⟩) l.length l.length), .int .i64 (y : Int)] w' fun e w'' => e = .returned (.bool (readyX l (dnP (d0 l) (picks.take k)) y)) ∧ Below w'.heap.size w' w'') := fun w' h1 h2 => CRY.out k g y w' hyl h1 h2
              have HCS : Hid (dn (dnP (d0 l) (picks.take k)) y = false → cnt ((dnP (d0 l) (picks.take k)).set y true) + 1 = cnt (dnP (d0 l) (picks.take k))) := fun h => cnt_set _ y (by rw [HDL.out k]; exact hyl) h
              have hdl := HDL.out k
              clear hr
              go_wp2_with fail
              refine (HW.out _).mono ?_
              rintro e u1 ⟨rfl, c1⟩
              have B1 : Hid (Below w.heap.size w u1) := grow_trans hB.out c1
              have ho1 : Hid (u1.ownsRow g 4 1 (.slice (some ⟨g, 0, none⟩) l.length l.length) l.length ((dnP (d0 l) (picks.take k)).map Value.bool)) := owns_below hown.out c1
              clear c1 hB HW hown e0
              have s3 : u1.cell? ⟨g, y, none⟩ = some (.bool (dn (dnP (d0 l) (picks.take k)) y)) := bool_cell ho1.out y (by rw [hdl]; exact hyl)
              clear hdl
              have i3 : (0 : Int) ≤ (y : Int) := by omega
              have i4 : (y : Int) < (l.length : Int) := by omega
              cases hd : dn (dnP (d0 l) (picks.take k)) y with
              | true =>
                rw [hd] at s3
                have HE : Hid (ckE s l picks = 7) := HN.out 7 (by decide) (by rw [HP1.out, if_pos hd])
                clear hd HP1 HN HY HCS CY
                go_wp2
                go_ret
                exact ⟨by rw [HE.out]; rfl, B1.out⟩
              | false =>
                rw [hd] at s3
                have HC1 := HCS.out hd
                have HP2 : Hid (pick1 l (dnP (d0 l) (picks.take k)) (y : Int) = if readyX l (dnP (d0 l) (picks.take k)) y = true then 0 else 6) := by
                  show _ = _
                  rw [HP1.out, if_neg (by rw [hd]; decide)]
                clear hd HP1 HCS
                have CYY : Hid (Calls Tryz.prog 15 #[.slice la l.length lc, (.slice (some ⟨g, 0, none⟩) l.length l.length), .int .i64 (y : Int)] u1 fun e w'' => e = .returned (.bool (readyX l (dnP (d0 l) (picks.take k)) y)) ∧ Below u1.heap.size u1 w'') := CY.out u1 B1.out (bools_of_owns ho1.out)
                clear CY
                cases hrd : readyX l (dnP (d0 l) (picks.take k)) y with
                | false =>
                  rw [hrd] at CYY
                  have HE : Hid (ckE s l picks = 6) := HN.out 6 (by decide) (by rw [HP2.out, if_neg (by rw [hrd]; decide)])
                  clear hrd HP2 HN HY
                  go_wp2_with fail
                  refine CYY.out.mono ?_
                  rintro e u2 ⟨rfl, c2⟩
                  have B2 : Hid (Below w.heap.size w u2) := grow_trans B1.out c2
                  clear c2 CYY
                  go_wp2
                  go_ret
                  exact ⟨by rw [HE.out]; rfl, B2.out⟩
                | true =>
                  rw [hrd] at CYY
                  obtain ⟨HY1, HY2⟩ := HY.out (by rw [HP2.out, if_pos hrd])
                  have HY1' : Hid (pkE l (d0 l) (picks.take (k + 1)) = 0) := HY1
                  have HY2' : Hid ((dnP (d0 l) (picks.take (k + 1))) = (dnP (d0 l) (picks.take k)).set y true) := HY2
                  have HC2 : Hid (((cnt (dnP (d0 l) (picks.take (k + 1))) : Nat) : Int) = (cnt (dnP (d0 l) (picks.take k)) : Int) - 1) := by
                    show _ = _
                    rw [HY2'.out]
                    omega
                  have hcp : 0 < cnt (dnP (d0 l) (picks.take k)) := by omega
                  clear hrd HP2 HN HY HY1 HY2 HC1
                  go_wp2_with fail
                  refine CYY.out.mono ?_
                  rintro e u2 ⟨rfl, c2⟩
                  have B2 : Hid (Below w.heap.size w u2) := grow_trans B1.out c2
                  have ho2 : Hid (u2.ownsRow g 4 1 (.slice (some ⟨g, 0, none⟩) l.length l.length) l.length ((dnP (d0 l) (picks.take k)).map Value.bool)) := owns_below ho1.out c2
                  have s5 := ext_cell c2 s3
                  clear c2 CYY ho1 B1 s3
                  have s4 : u2.frozen? ⟨g, y, none⟩ = false := ho2.out.frozenAt y
                  have R1 : Hid ((u2.setCell ⟨g, y, none⟩ (.bool true)).ownsRow g 4 1 (.slice (some ⟨g, 0, none⟩) l.length l.length) l.length ((dnP (d0 l) (picks.take (k + 1))).map Value.bool)) := by
                    have h := (ho2.out.stored y (.bool true)).1
                    rw [HY2'.out, List.map_set]
                    exact h
                  have R4 : Hid (Below w.heap.size w (u2.setCell ⟨g, y, none⟩ (.bool true))) := grow_set B2.out (by show w.heap.size ≤ g; omega) _
                  generalize cnt (dnP (d0 l) (picks.take k)) = cc at *
                  clear ho2 B2
                  go_wp2
                  go_roundw
                  case rel => exact ⟨k + 1, by omega, by go_num, by rw [HC2.out], HY1', R1, R4⟩
                  case measure => simp [intOf]; omega
          · have hkk : k = picks.length := by omega
            have hP1 : pkE l (d0 l) picks = 0 := by
              have h := hP0.out
              rw [hkk, List.take_of_length_le (Nat.le_refl _)] at h
              exact h
            have HE : Hid (ckE s l picks = if 0 < cnt (dnP (d0 l) (picks.take k)) then 8 else 0) := by
              show _ = _
              rw [HGOOD.out hP1, hkk, List.take_of_length_le (Nat.le_refl _)]
            have j6 : ¬ (k : Int) < (picks.length : Int) := by omega
            clear hkk hP1 hP0 hown
            generalize cnt (dnP (d0 l) (picks.take k)) = cc at *
            by_cases hc : 0 < cc
            · have HE2 : Hid (ckE s l picks = 8) := by show _ = _; rw [HE.out, if_pos hc]
              have hc' : (0 : Int) < (cc : Int) := by omega
              clear HE
              go_wp2
              go_ret
              exact ⟨by rw [HE2.out]; rfl, hB.out⟩
            · have HE2 : Hid (ckE s l picks = 0) := by show _ = _; rw [HE.out, if_neg hc]
              have hc' : ¬ (0 : Int) < (cc : Int) := by omega
              clear HE
              go_wp2
              go_ret
              exact ⟨by rw [HE2.out]; rfl, hB.out⟩
    · have HV : Hid (ckE s l picks = chkL l) := by
        have hpr : prE s l picks = chkL l := by
          unfold prE
          rw [hlen0]
          show firstNZ [chkL l, mnE picks] = _
          unfold firstNZ
          rw [if_neg hC]
        show _ = _
        unfold ckE
        rw [hpr, if_neg hC]
      have hb : (chkL l != 0) = true := by simpa using hC
      clear hlen0 hC HL HPk
      generalize chkL l = ce at *
      go_enter Tryz.func5, Tryz.ntmps5
      go_wp2_with fail
      refine (IS.out _).mono ?_
      rintro e w1 ⟨rfl, b1⟩
      have B1 : Hid (Below w.heap.size w w1) := b1
      clear b1 IS
      go_wp2_with fail
      refine (CT.out _ B1.out).mono ?_
      rintro e w2 ⟨rfl, b2⟩
      have B2 : Hid (Below w.heap.size w w2) := grow_trans B1.out b2
      clear b2 B1 CT
      go_wp2
      go_ret
      exact ⟨by rw [HV.out]; rfl, B2.out⟩
  · have IS : Hid (∀ w', Calls Tryz.prog 12 #[.slice sa s.length sc] w' fun e w'' => e = .returned (.bool false) ∧ Below w'.heap.size w' w'') := fun w' => (isStore_any s sa sc w').mono fun e w'' ⟨h1, h2⟩ => ⟨by rw [h1]; simp [h8], by rw [h2]; exact Below.refl _ _⟩
    have HV : Hid (ckE s l picks = 1) := by
      have h1 : lenR s = 1 := if_neg h8
      have hpr : prE s l picks = 1 := by
        unfold prE
        rw [h1]
        rfl
      show _ = _
      unfold ckE
      rw [hpr]
      rfl
    clear h8 HL HPk
    go_enter Tryz.func5, Tryz.ntmps5
    go_wp2_with fail
    refine (IS.out _).mono ?_
    rintro e w1 ⟨rfl, b1⟩
    have B1 : Hid (Below w.heap.size w w1) := b1
    clear b1 IS
    go_wp2
    go_ret
    exact ⟨by rw [HV.out]; rfl, B1.out⟩
end Go.Proofs.YtikolifbljnokaaGreat

/-
  The document's PicksRun: transactions one after the other in the order of the picks, each result at its own place.
  Conditions: the arguments can be read; the picks may be.
-/
namespace Go.Proofs.YtikolifbljnokaaGreat
open Go.RowKit

theorem putRes_snoc : ∀ (ps : List Nat) (R rs : List (Bool × List Int)) (y : Nat) (t : Bool × List Int), ps.length = rs.length → putRes R (ps ++ [y]) (rs ++ [t]) = (putRes R ps rs).set y t
  | [], R, [], y, t, _ => rfl
  | [], _, _ :: _, _, _, h => by simp at h
  | _ :: _, _, [], _, _, h => by simp at h
  | p :: ps, R, r :: rs, y, t, h => by
    have ih := putRes_snoc ps (R.set p r) rs y t (by simpa using h)
    simpa [putRes] using ih
theorem flatR_bs : ∀ (L : List RsA) (u : Value), u ∈ flatR L → ∀ z, u ≠ .int .i64 z
  | [], u, h, _ => by simp [flatR] at h
  | r :: t, u, h, z => by
    unfold flatR rcells at h
    rcases List.mem_append.1 h with h | h
    · simp at h
      rcases h with rfl | rfl <;> intro e <;> cases e
    · exact flatR_bs t u h z
theorem own_res_only {w : World} {base g n : Nat} {L : List RsA} (h : w.ownsRow base 41 2 (.slice (some ⟨g, 0, none⟩) n n) n (flatR L)) (b c : Nat) (z : Int) (hc : w.cell? ⟨b, c, none⟩ = some (.int .i64 z)) : b ≠ g := by
  rintro rfl
  have hl : (flatR L).length = n * 2 := by have := h.1; simpa using this
  rcases h.2 with ⟨h0, _⟩ | ⟨g', cap', cur, he, hb, hg, hnc, hcm, hcs, htake⟩
  · cases h0
  · injection he with e1 e2 e3
    injection e1 with e1
    injection e1 with e1 _ _
    subst e1 e3
    by_cases hlt : c < n * 2
    · have hlt' : c < (flatR L).length := by omega
      have h2 := h.cells (g := b) rfl c ((flatR L)[c]) (List.getElem?_eq_getElem hlt')
      rw [add_none] at h2
      simp only [Nat.zero_add] at h2
      rw [hc] at h2
      injection h2 with h2
      exact flatR_bs L _ (List.getElem_mem hlt') z h2.symm
    · have : w.cell? ⟨b, c, none⟩ = none := by
        simp [World.cell?, hg]
        omega
      rw [this] at hc
      cases hc
theorem ints_past {w : World} {base g n : Nat} {L : List RsA} (h : w.ownsRow base 41 2 (.slice (some ⟨g, 0, none⟩) n n) n (flatR L)) {a : Option Addr} {zs : List Int} (hz : IsInts w a zs) (i j : Nat) (u v : Value) : IsInts ((w.setCell ⟨g, i, none⟩ u).setCell ⟨g, j, none⟩ v) a zs := fun k hk => by
  obtain ⟨b, off, ha, hlt, hc⟩ := hz k hk
  have hbg := own_res_only h b _ _ hc
  exact ⟨b, off, ha, by simpa using hlt, (grown_one _ g j v).cell ((grown_one w g i u).cell hc (by simpa using hbg)) (by simpa using hbg)⟩

variable (sa : Option Addr) (sc : Nat) (s : List Int) (la : Option Addr) (lc : Nat) (l : List TxA) (pa : Option Addr) (pc : Nat) (picks : List Int)

set_option maxRecDepth 100000 in
set_option maxHeartbeats 8000000 in
theorem picksRun_any (w : World) (hs : IsInts w sa s) (hl : IsTxs w la l) (hp : IsInts w pa picks) (hE : ckE s l picks = 0) :
    Calls Tryz.prog 6 #[.slice sa s.length sc, .slice la l.length lc, .slice pa picks.length pc] w fun e w' => ∃ ea ec ra rc, e = .returned (.tuple #[.slice ea s.length ec, .slice ra l.length rc]) ∧ IsInts w' ea (serEnd s l) ∧ IsRes w' ra (serRes s l) ∧ Below w.heap.size w w' := by
  obtain ⟨i0, hi, hz0, hz1, hz2⟩ := info_parts Tryz.info3
  obtain ⟨i1, hi1, hy0, hy1, hy2⟩ := info_parts Tryz.info41
  obtain ⟨hpr, hpk, _⟩ := ckE_zero hE
  obtain ⟨h8, hC, _⟩ := prE_zero hpr
  have hl8 := chkL_small hC
  obtain ⟨hend, hres, hlen⟩ := ckE_same hE ((List.replicate l.length r0).map RsA.told) (by simp)
  have hs100 : s.length ≤ 100 := by omega
  obtain ⟨ad, rfl⟩ : ∃ ad, sa = some ad := by
    obtain ⟨b, off, h, _⟩ := hs 0 (by omega)
    exact ⟨_, h⟩
  have HL : Hid (IsTxs w la l) := hl
  have HPk : Hid (IsInts w pa picks) := hp
  have HPL : Hid (picks.length = l.length) := hlen
  have HN : Hid (∀ (o : Obj), ∀ j u, (s.map (Value.int .i64))[j]? = some u → (w.alloc o).cell? (ad.add j) = some u) := fun o => news_ints (hs.below (grow_alloc (Below.refl _ _) o))
  have HIN : Hid (∀ k, k < picks.length → 0 ≤ picks.getD k 0 ∧ (picks.getD k 0).toNat < l.length) := fun k hk => pkE_in l picks (d0 l) hpk k hk
  have HTK : Hid (∀ k, k < picks.length → pX l (picks.take (k + 1)) = pX l (picks.take k) ++ [gX l (picks.getD k 0).toNat]) := fun k hk => pX_take l picks k hk
  have HTN : Hid (∀ k, k < picks.length → (pN picks).take (k + 1) = (pN picks).take k ++ [(picks.getD k 0).toNat]) := fun k hk => by
    show _ = _
    unfold pN
    rw [List.take_succ_eq_append_getElem (by simpa using hk)]
    simp [List.getD, hk]
  have HTL : Hid (∀ k, k ≤ picks.length → ((pN picks).take k).length = (serRes s (pX l (picks.take k))).length) := fun k hk => by
    show _ = _
    rw [serRes_len, pX_len]
    simp [pN]
  have HEL : Hid (∀ k, (serEnd s (pX l (picks.take k))).length = s.length) := fun k => by show _ = _; rw [serEnd_len]
  have HXC : Hid (∀ y, y < l.length → chkX (gX l y) = 0) := fun y hy => chkL_at0 hC y hy
  have HFIN : Hid (serEnd s (pX l picks) = serEnd s l ∧ putRes ((List.replicate l.length r0).map RsA.told) (pN picks) (serRes s (pX l picks)) = serRes s l) := ⟨hend, hres⟩
  have HM : Hid ((madeCells (Value.agg #[.bool false, .slice none 0 0]).cells (l.length * 2)).toList = flatR (List.replicate l.length r0)) := made_res l.length hl8
  have H8 : Hid (s.length = 8) := h8
  clear hs hl hp hE hpr hpk hC h8 hend hres hlen
  go_enter Tryz.func6, Tryz.ntmps6
  go_upto_region 2 with (first
    | (at_builtin; refine wpList_append_own _ rfl _ _ 22 rfl w.heap.size 3 i0 (.int .i64 0) 1 8 Tryz.underlying22 hi hz0 hz1 hz2 rfl (by decide) _ 0 [] rfl (World.ownsRow_lit w #[] 0 (Nat.le_refl _) (by decide) rfl) ad s.length sc (s.map (Value.int .i64)) rfl (by simp) (HN.out _) (ints_oneCell .i64 s) (by unfold maxLen; omega) (by omega) (by simp) ?_; intro v' w1 hown' hgrow _)
    | go_in)
  have RB : Hid (Below w.heap.size w w1) := (grow_alloc (Below.refl _ _) _).grown hgrow (by simp) (fun j hj => by have hj' : some w.heap.size = some j := hj; injection hj' with hj'; exact Nat.le_of_eq hj')
  simp only [Nat.zero_add, List.nil_append] at hown'
  clear hgrow HN
  obtain ⟨ea0, ec0, rfl, hz'⟩ := ints_of_owns hown'
  have HE0 : Hid (IsInts w1 ea0 s) := hz'
  clear hown' hz'
  go_upto_region 3 with (first
    | (at_make; refine wpList_make_full _ rfl _ _ 24 rfl w1.heap.size 41 i1 (.agg #[.bool false, .slice none 0 0]) 2 Tryz.underlying24 hi1 hy0 hy1 .i64 .i64 _ _ l.length rfl rfl rfl rfl (by rw [hy2]; omega) (by unfold maxLen; omega) (by simp) ?_; intro w2 hown hgrow)
    | go_in)
  rw [HM.out] at hown
  have U2 := Below.grown (Below.refl w1.heap.size w1) hgrow (by omega) (fun j hj => by cases hj)
  have hm0 : Hid (w2.ownsRow w1.heap.size 41 2 (.slice (some ⟨w1.heap.size, 0, none⟩) l.length l.length) l.length (flatR (List.replicate l.length r0))) := hown
  have HE2 : Hid (IsInts w2 ea0 s) := HE0.out.below U2
  have BW2 : Hid (Below w.heap.size w w2) := grow_trans RB.out U2
  have hwg : w.heap.size ≤ w1.heap.size := RB.out.size
  clear hown hgrow HM U2 RB HE0
  generalize w1.heap.size = g at *
  go_wp2
  go_loopw [8, 10] (fun v i wr => ∃ (k : Nat) (L : List RsA) (ea : Option Addr) (ec : Nat), k ≤ picks.length ∧ i = .int .i64 k ∧ v = .slice ea s.length ec ∧ Hid (IsInts wr ea (serEnd s (pX l (picks.take k)))) ∧ Hid (L.length = l.length) ∧ Hid (L.map RsA.told = (putRes ((List.replicate l.length r0).map RsA.told) ((pN picks).take k) (serRes s (pX l (picks.take k))))) ∧ Hid (∀ r ∈ L, IsInts wr r.va r.vs) ∧ Hid (wr.ownsRow g 41 2 (.slice (some ⟨g, 0, none⟩) l.length l.length) l.length (flatR L)) ∧ Hid (Below w.heap.size w wr)) (fun _ i _ => picks.length - (intOf i).toNat)
  case atStart => exact ⟨0, List.replicate l.length r0, ea0, ec0, Nat.zero_le _, rfl, rfl, HE2, (by show _ = _; simp), (by show _ = _; rfl), (fun r hr => by
    obtain ⟨_, rfl⟩ := List.mem_replicate.1 hr
    exact fun i hi => absurd hi (by simp [r0])), hm0, BW2⟩
  case round =>
    clear hm0 BW2 HE2
    obtain ⟨k, L, ea, ec, hk, rfl, rfl, hEa, hLl, hLt, hLi, hown, hB⟩ := hrel
    by_cases hlt : k < picks.length
    · obtain ⟨b, off, rfl, _, c0⟩ := HPk.out k hlt
      obtain ⟨z0, zl⟩ := HIN.out k hlt
      have HT : Hid (pX l (picks.take (k + 1)) = pX l (picks.take k) ++ [gX l (picks.getD k 0).toNat]) := HTK.out k hlt
      have HT2 : Hid ((pN picks).take (k + 1) = (pN picks).take k ++ [(picks.getD k 0).toNat]) := HTN.out k hlt
      have HTl : Hid (((pN picks).take k).length = (serRes s (pX l (picks.take k))).length) := HTL.out k hk
      generalize picks.getD k 0 = z at *
      obtain ⟨y, rfl⟩ := Int.eq_ofNat_of_zero_le z0
      have zl' : y < l.length := by simpa using zl
      rw [Int.toNat_natCast] at HT HT2
      obtain ⟨b2, off2, rfl, _, f0, f1, f2, hx⟩ := HL.out y zl'
      have HS1 : Hid ((serEnd s (pX l (picks.take (k + 1)))) = aEnd (serEnd s (pX l (picks.take k))) (gX l y)) := by show _ = _; rw [HT.out, serEnd_app]; rfl
      have HS2 : Hid (serRes s (pX l (picks.take (k + 1))) = serRes s (pX l (picks.take k)) ++ [(aDone (serEnd s (pX l (picks.take k))) (gX l y), aVals (serEnd s (pX l (picks.take k))) (gX l y))]) := by show _ = _; rw [HT.out, serRes_app]; rfl
      have hxc := HXC.out y zl'
      have HST : Hid ((putRes ((List.replicate l.length r0).map RsA.told) ((pN picks).take (k + 1)) (serRes s (pX l (picks.take (k + 1))))) = (putRes ((List.replicate l.length r0).map RsA.told) ((pN picks).take k) (serRes s (pX l (picks.take k)))).set y (aDone (serEnd s (pX l (picks.take k))) (gX l y), aVals (serEnd s (pX l (picks.take k))) (gX l y))) := by
        show _ = _
        rw [HT2.out, HS2.out, putRes_snoc _ _ _ _ _ HTl.out]
      have CA : Hid (∀ w', Below w.heap.size w w' → IsInts w' ea (serEnd s (pX l (picks.take k))) → Calls Tryz.prog 16 #[.slice ea s.length ec, .agg #[.slice (l.getD y x0).ra (l.getD y x0).rs.length (l.getD y x0).rc, .slice (l.getD y x0).ga (l.getD y x0).gs.length (l.getD y x0).gc, .slice (l.getD y x0).sa (l.getD y x0).ss.length (l.getD y x0).sc]] w' fun e w'' => ∃ a cap va vc, e = .returned (.tuple #[.slice a s.length cap, .agg #[.bool (aDone (serEnd s (pX l (picks.take k))) (gX l y)), .slice va (aVals (serEnd s (pX l (picks.take k))) (gX l y)).length vc]]) ∧ Hid (IsInts w'' a (aEnd (serEnd s (pX l (picks.take k))) (gX l y))) ∧ Hid (IsInts w'' va (aVals (serEnd s (pX l (picks.take k))) (gX l y))) ∧ Below w'.heap.size w' w'') := fun w' h1 h2 => by
        have h := applyR_any ea ec (serEnd s (pX l (picks.take k))) (l.getD y x0).ra (l.getD y x0).ga (l.getD y x0).sa (l.getD y x0).rc (l.getD y x0).gc (l.getD y x0).sc (l.getD y x0).rs (l.getD y x0).gs (l.getD y x0).ss w' h2 (by rw [HEL.out k]; exact H8.out) (hx.below h1).t hxc
        rw [HEL.out k] at h
        exact h.mono fun e w'' ⟨a, cap, va, vc, q1, q2, _, q4, q5⟩ => ⟨a, cap, va, vc, q1, q2.ints (Nat.le_refl _), q4.ints (Nat.le_refl _), q5⟩
      rw [← HS1.out] at CA
      have KS0 : Hid (∀ w', Below w.heap.size w w' → Below w.heap.size w w' ∧ w'.cell? ⟨b, off + k, none⟩ = some (.int .i64 (y : Int)) ∧ w'.cell? ⟨b2, off2 + y * 3, none⟩ = some (.slice (l.getD y x0).ra (l.getD y x0).rs.length (l.getD y x0).rc) ∧ w'.cell? ⟨b2, off2 + y * 3 + 1, none⟩ = some (.slice (l.getD y x0).ga (l.getD y x0).gs.length (l.getD y x0).gc) ∧ w'.cell? ⟨b2, off2 + y * 3 + 2, none⟩ = some (.slice (l.getD y x0).sa (l.getD y x0).ss.length (l.getD y x0).sc)) := fun w' h => ⟨h, ext_cell h c0, ext_cell h f0, ext_cell h f1, ext_cell h f2⟩
      clear c0 f0 f1 f2 hx hxc HT HT2 HTl HS1 HS2 zl z0
      generalize (serEnd s (pX l (picks.take k))) = E at *
      generalize aDone E (gX l y) = dd at *
      generalize aVals E (gX l y) = vv at *
      generalize l.getD y x0 = x at *
      obtain ⟨xra, xga, xsa, xrc, xgc, xsc, xrs, xgs, xss⟩ := x
      simp only at CA KS0
      have KS : Hid (∀ w', Below w.heap.size w w' → Below w.heap.size w w' ∧ w'.cell? ⟨b, off + k, none⟩ = some (.int .i64 (y : Int)) ∧ w'.cell? ⟨b2, off2 + y * 3, none⟩ = some (.slice xra xrs.length xrc) ∧ w'.cell? ⟨b2, off2 + y * 3 + 1, none⟩ = some (.slice xga xgs.length xgc) ∧ w'.cell? ⟨b2, off2 + y * 3 + 2, none⟩ = some (.slice xsa xss.length xsc)) := KS0.out
      clear KS0
      have j1 : (0 : Int) ≤ (k : Int) := by omega
      have j2 : (k : Int) < (picks.length : Int) := by omega
      have j3 : (0 : Int) ≤ (y : Int) := by omega
      have j4 : (y : Int) < (l.length : Int) := by omega
      have hB' := hB.out
      go_upto_region 6 with fail
      go_region_held3 (fun w' => Below w.heap.size w w' ∧ w'.cell? ⟨b, off + k, none⟩ = some (.int .i64 (y : Int)) ∧ w'.cell? ⟨b2, off2 + y * 3, none⟩ = some (.slice xra xrs.length xrc) ∧ w'.cell? ⟨b2, off2 + y * 3 + 1, none⟩ = some (.slice xga xgs.length xgc) ∧ w'.cell? ⟨b2, off2 + y * 3 + 2, none⟩ = some (.slice xsa xss.length xsc)) ((refine KS.out _ ?_; go_split_ands; repeat (first | assumption | exact Below.refl _ _ | refine grow_drew ?_ | refine grow_alloc ?_ _ | refine grow_set ?_ (by show w.heap.size ≤ g; omega) _ | refine grow_trans ?_ (by assumption))))
        (first
          | (go_at_call 16; refine (CA.out _ ?_ ?_).mono ?_; (go_split_ands; assumption); (refine hEa.out.below ?_; repeat (first | exact Below.refl _ _ | refine grow_drew ?_)); rintro e wa ⟨ea1, ec1, va, vc, rfl, hA1, hA2, hba⟩
             have ho1 : Hid (wa.ownsRow g 41 2 (.slice (some ⟨g, 0, none⟩) l.length l.length) l.length (flatR L)) := owns_below (owns_below hown.out (by repeat (first | exact Below.refl _ _ | refine grow_drew ?_))) hba
             have hL1 : Hid (∀ r ∈ L, IsInts wa r.va r.vs) := fun r hr => IsInts.below (IsInts.below (hLi.out r hr) (by repeat (first | exact Below.refl _ _ | refine grow_drew ?_))) hba
             have hBa : Hid (Below w.heap.size w wa) := grow_trans (by go_split_ands; assumption) hba
             obtain ⟨q0, q1⟩ := flatR_at L y (by rw [hLl.out]; exact zl')
             have s0 := ho1.out.cells (g := g) rfl (y * 2) _ q0
             have s1 := ho1.out.cells (g := g) rfl (y * 2 + 1) _ q1
             rw [add_none] at s0 s1
             simp only [Nat.zero_add] at s0 s1
             have t0 : wa.frozen? ⟨g, y * 2, none⟩ = false := ho1.out.frozenAt _
             have t1 : wa.frozen? ⟨g, y * 2 + 1, none⟩ = false := ho1.out.frozenAt _
             clear q0 q1))
      all_goals (
        go_split_ands
        have R1 : Hid (((wa.setCell ⟨g, y * 2, none⟩ (.bool dd)).setCell ⟨g, y * 2 + 1, none⟩ (.slice va vv.length vc)).ownsRow g 41 2 (.slice (some ⟨g, 0, none⟩) l.length l.length) l.length (flatR (L.set y ⟨va, vc, dd, vv⟩))) := own_put2R hLl.out ho1.out y zl' ⟨va, vc, dd, vv⟩
        have R2 : Hid (Below w.heap.size w ((wa.setCell ⟨g, y * 2, none⟩ (.bool dd)).setCell ⟨g, y * 2 + 1, none⟩ (.slice va vv.length vc))) := grow_set (grow_set hBa.out (p := ⟨g, y * 2, none⟩) hwg _) (p := ⟨g, y * 2 + 1, none⟩) hwg _
        have R3 : Hid (IsInts ((wa.setCell ⟨g, y * 2, none⟩ (.bool dd)).setCell ⟨g, y * 2 + 1, none⟩ (.slice va vv.length vc)) ea1 (serEnd s (pX l (picks.take (k + 1))))) := ints_past ho1.out hA1.out _ _ _ _
        have R4 : Hid (∀ r ∈ L.set y ⟨va, vc, dd, vv⟩, IsInts ((wa.setCell ⟨g, y * 2, none⟩ (.bool dd)).setCell ⟨g, y * 2 + 1, none⟩ (.slice va vv.length vc)) r.va r.vs) := fun r hr => by
          rcases List.mem_or_eq_of_mem_set hr with h | rfl
          · exact ints_past ho1.out (hL1.out r h) _ _ _ _
          · exact ints_past ho1.out hA2.out _ _ _ _
        have R5 : Hid ((L.set y ⟨va, vc, dd, vv⟩).map RsA.told = (putRes ((List.replicate l.length r0).map RsA.told) ((pN picks).take (k + 1)) (serRes s (pX l (picks.take (k + 1)))))) := by
          show _ = _
          rw [List.map_set, hLt.out, HST.out]
          rfl
        have R6 : Hid ((L.set y ⟨va, vc, dd, vv⟩).length = l.length) := by show _ = _; rw [List.length_set]; exact hLl.out
        have D : Below ((wa.setCell ⟨g, y * 2, none⟩ (.bool dd)).setCell ⟨g, y * 2 + 1, none⟩ (.slice va vv.length vc)).heap.size ((wa.setCell ⟨g, y * 2, none⟩ (.bool dd)).setCell ⟨g, y * 2 + 1, none⟩ (.slice va vv.length vc)) ((wa.setCell ⟨g, y * 2, none⟩ (.bool dd)).setCell ⟨g, y * 2 + 1, none⟩ (.slice va vv.length vc)).drew := grow_drew (Below.refl _ _)
        have Q1 : Hid _ := owns_below R1.out D
        have Q2 : Hid _ := grow_trans R2.out D
        have Q3 : Hid _ := R3.out.below D
        have Q4 : Hid (∀ r ∈ L.set y ⟨va, vc, dd, vv⟩, IsInts ((wa.setCell ⟨g, y * 2, none⟩ (.bool dd)).setCell ⟨g, y * 2 + 1, none⟩ (.slice va vv.length vc)).drew r.va r.vs) := fun r hr => (R4.out r hr).below D
        clear D s0 s1 t0 t1 ho1 hL1 hBa hba KS CA hA1 hA2
        go_wp2
        go_roundw
        case rel => first
          | exact ⟨k + 1, _, ea1, ec1, by omega, by go_num, rfl, Q3, R6, R5, Q4, Q1, Q2⟩
          | exact ⟨k + 1, _, ea1, ec1, by omega, by go_num, rfl, R3, R6, R5, R4, R1, R2⟩
        case measure => simp [intOf]; omega)
    · have hkk : k = picks.length := by omega
      obtain ⟨hf1, hf2⟩ := HFIN.out
      have hEf : Hid (IsInts wr ea (serEnd s l)) := by
        have h := hEa.out
        rw [hkk, List.take_of_length_le (Nat.le_refl _), hf1] at h
        exact h
      have hLf : L.map RsA.told = serRes s l := by
        have h := hLt.out
        rw [hkk, List.take_of_length_le (Nat.le_refl _), List.take_of_length_le (by simp [pN]), hf2] at h
        exact h
      obtain ⟨a, cap, hv, hR⟩ := res_of_owns hown.out hLi.out
      injection hv with hv1 hv2 hv3
      subst hv1
      rw [hLf] at hR
      have HR : Hid (IsRes wr (some ⟨g, 0, none⟩) (serRes s l)) := hR
      have j6 : ¬ (k : Int) < (picks.length : Int) := by omega
      clear hkk hf1 hf2 hLf hR hv2 hv3 hEa hLt hLi hown HFIN
      go_wp2
      go_ret2
      exact ⟨ea, ec, some ⟨g, 0, none⟩, ⟨l.length, rfl⟩, hEf.out, HR.out, hB.out⟩
end Go.Proofs.YtikolifbljnokaaGreat

/-
  RunTells walked: run's Check and Run answer just what the document says, errors too.
  Conditions: the arguments can be read.
-/
namespace Go.Proofs.YtikolifbljnokaaGreat
open Go.RowKit
variable (sa : Option Addr) (sc : Nat) (s : List Int) (la : Option Addr) (lc : Nat) (l : List TxA) (pa : Option Addr) (pc : Nat) (picks : List Int)

set_option maxRecDepth 100000 in
set_option maxHeartbeats 8000000 in
theorem runTells_walk (w : World) (hs : IsInts w sa s) (hl : IsTxs w la l) (hp : IsInts w pa picks) :
    Calls Tryz.prog 3 #[.slice sa s.length sc, .slice la l.length lc, .slice pa picks.length pc] w fun e w' => e = .returned (.bool true) ∧ Below w.heap.size w w' := by
  have CK : Hid (∀ w', Below w.heap.size w w' → Calls Tryz.prog 8 #[.slice sa s.length sc, .slice la l.length lc, .slice pa picks.length pc] w' fun e w'' => e = .returned (.int .i64 (ckE s l picks)) ∧ Below w'.heap.size w' w'') := fun w' h => rcheck_any sa sc s la lc l pa pc picks w' (hl.below h) (hp.below h)
  have CD : Hid (∀ w', Below w.heap.size w w' → Calls Tryz.prog 5 #[.slice sa s.length sc, .slice la l.length lc, .slice pa picks.length pc] w' fun e w'' => e = .returned (.int .i64 (ckE s l picks)) ∧ Below w'.heap.size w' w'') := fun w' h => picksDoc_any sa sc s la lc l pa pc picks w' (hl.below h) (hp.below h)
  by_cases he : ckE s l picks = 0
  · obtain ⟨hpr, _, _⟩ := ckE_zero he
    obtain ⟨h8, hC, _⟩ := prE_zero hpr
    have hl8 := chkL_small hC
    have hser : serE s l = 0 := by
      unfold serE lenE
      rw [if_pos h8, hC]
      rfl
    have RN : Hid (Calls Tryz.prog 4 #[.slice sa s.length sc, .slice la l.length lc, .slice pa picks.length pc] w fun e w' => ∃ ea ec ra rc, e = .returned (.tuple #[.slice ea 8 ec, .slice ra l.length rc, .int .i64 0]) ∧ Hid (IsInts w' ea (serEnd s l)) ∧ Hid (IsRes w' ra (serRes s l)) ∧ Below w.heap.size w w') := run_ok sa sc s la lc l pa pc picks w hs hl hp he
    have PR : Hid (∀ w', Below w.heap.size w w' → Calls Tryz.prog 6 #[.slice sa s.length sc, .slice la l.length lc, .slice pa picks.length pc] w' fun e w'' => ∃ ea ec ra rc, e = .returned (.tuple #[.slice ea s.length ec, .slice ra l.length rc]) ∧ Hid (IsInts w'' ea (serEnd s l)) ∧ Hid (IsRes w'' ra (serRes s l)) ∧ Below w'.heap.size w' w'') := fun w' h => picksRun_any sa sc s la lc l pa pc picks w' (hs.below h) (hl.below h) (hp.below h) he
    have hel : (serEnd s l).length = 8 := by rw [serEnd_len]; exact h8
    have hel2 : (serEnd s l).length = s.length := by rw [serEnd_len]
    have hrl : (serRes s l).length = l.length := by rw [serRes_len]
    have SS : Hid (∀ (a a' : Option Addr) (c c' : Nat) (w' : World), IsInts w' a (serEnd s l) → IsInts w' a' (serEnd s l) → Calls Tryz.prog 9 #[.slice a 8 c, .slice a' s.length c'] w' fun e w'' => e = .returned (.bool true) ∧ Below w'.heap.size w' w'') := fun a a' c c' w' q1 q2 => by
      have h := sameInts_any (serEnd s l) (serEnd s l) a a' c c' w' (by rw [hel]; decide) q1 q2
      rw [show Value.slice a (serEnd s l).length c = Value.slice a 8 c from by rw [hel]] at h
      by_cases haa : Value.slice a' (serEnd s l).length c' = Value.slice a' s.length c'
      · rw [haa] at h
        exact h.mono fun e w'' ⟨h1, h2⟩ => ⟨by rw [h1]; simp, h2⟩
      · exact absurd (by rw [hel2]) haa
    have SQ : Hid (∀ (a a' : Option Addr) (c c' : Nat) (w' : World), IsRes w' a (serRes s l) → IsRes w' a' (serRes s l) → Calls Tryz.prog 10 #[.slice a l.length c, .slice a' l.length c'] w' fun e w'' => e = .returned (.bool true) ∧ Below w'.heap.size w' w'') := fun a a' c c' w' q1 q2 => by
      have h := sameResults_eq (serRes s l) a a' c c' w' (by rw [hrl]; omega) (vals_few hser) q1 q2
      rw [hrl] at h
      exact h
    rw [he] at CK CD
    generalize serEnd s l = E at *
    generalize serRes s l = R at *
    clear hs hl hp he hpr h8 hC hl8 hser hel hel2 hrl
    go_enter Tryz.func3, Tryz.ntmps3
    go_wp2_with fail
    refine RN.out.mono ?_
    clear RN
    rintro e w1 ⟨ea, ec, ra, rc, rfl, hEa, hRa, b1⟩
    have B1 : Hid (Below w.heap.size w w1) := b1
    clear b1
    go_wp2_with fail
    refine (CD.out _ B1.out).mono ?_
    clear CD
    rintro e w2 ⟨rfl, b2⟩
    have hE2 : Hid (IsInts w2 ea E) := hEa.out.below b2
    have hR2 : Hid (IsRes w2 ra R) := hRa.out.below b2
    have B2 : Hid (Below w.heap.size w w2) := grow_trans B1.out b2
    clear b2 hEa hRa B1
    go_wp2_with fail
    refine (PR.out _ B2.out).mono ?_
    clear PR
    rintro e w3 ⟨fa, fc, qa, qc, rfl, hFa, hQa, b3⟩
    have hE3 : Hid (IsInts w3 ea E) := hE2.out.below b3
    have hR3 : Hid (IsRes w3 ra R) := hR2.out.below b3
    have B3 : Hid (Below w.heap.size w w3) := grow_trans B2.out b3
    clear b3 hE2 hR2 B2
    go_wp2_with fail
    refine (runBegun_any _).mono ?_
    rintro e w4 ⟨rfl, b4⟩
    have hE4 : Hid (IsInts w4 ea E) := hE3.out.below b4
    have hR4 : Hid (IsRes w4 ra R) := hR3.out.below b4
    have hF4 : Hid (IsInts w4 fa E) := hFa.out.below b4
    have hQ4 : Hid (IsRes w4 qa R) := hQa.out.below b4
    have B4 : Hid (Below w.heap.size w w4) := grow_trans B3.out b4
    clear b4 hE3 hR3 hFa hQa B3
    go_wp2_with fail
    refine (CK.out _ B4.out).mono ?_
    clear CK
    rintro e w5 ⟨rfl, b5⟩
    have hE5 : Hid (IsInts w5 ea E) := hE4.out.below b5
    have hR5 : Hid (IsRes w5 ra R) := hR4.out.below b5
    have hF5 : Hid (IsInts w5 fa E) := hF4.out.below b5
    have hQ5 : Hid (IsRes w5 qa R) := hQ4.out.below b5
    have B5 : Hid (Below w.heap.size w w5) := grow_trans B4.out b5
    clear b5 hE4 hR4 hF4 hQ4 B4
    go_wp2_with fail
    refine (SS.out _ _ _ _ _ hE5.out hF5.out).mono ?_
    clear SS
    rintro e w6 ⟨rfl, b6⟩
    have hR6 : Hid (IsRes w6 ra R) := hR5.out.below b6
    have hQ6 : Hid (IsRes w6 qa R) := hQ5.out.below b6
    have B6 : Hid (Below w.heap.size w w6) := grow_trans B5.out b6
    clear b6 hE5 hF5 hR5 hQ5 B5
    go_wp2_with fail
    refine (SQ.out _ _ _ _ _ hR6.out hQ6.out).mono ?_
    clear SQ
    rintro e w7 ⟨rfl, b7⟩
    have B7 : Hid (Below w.heap.size w w7) := grow_trans B6.out b7
    clear b7 hR6 hQ6 B6
    go_wp2
    go_ret
    exact ⟨rfl, B7.out⟩
  · have hb : (ckE s l picks == 0) = false := by simpa using he
    have hbb : (ckE s l picks == ckE s l picks) = true := by simp
    have RN : Hid (Calls Tryz.prog 4 #[.slice sa s.length sc, .slice la l.length lc, .slice pa picks.length pc] w fun e w' => e = .returned (.tuple #[.slice none 0 0, .slice none 0 0, .int .i64 (ckE s l picks)]) ∧ Below w.heap.size w w') := run_bad sa sc s la lc l pa pc picks w hl hp he
    have SS : Hid (∀ (w' : World), Calls Tryz.prog 9 #[.slice none 0 0, .slice none 0 0] w' fun e w'' => e = .returned (.bool true) ∧ Below w'.heap.size w' w'') := fun w' => (sameInts_any [] [] none none 0 0 w' (by decide) (fun i hi => absurd hi (by simp)) (fun i hi => absurd hi (by simp))).mono fun e w'' ⟨h1, h2⟩ => ⟨by rw [h1]; simp, h2⟩
    have SQ : Hid (∀ (w' : World), Calls Tryz.prog 10 #[.slice none 0 0, .slice none 0 0] w' fun e w'' => e = .returned (.bool true) ∧ Below w'.heap.size w' w'') := fun w' => sameResults_eq [] none none 0 0 w' (by decide) (fun r hr => absurd hr (by simp)) (fun i hi => absurd hi (by simp)) (fun i hi => absurd hi (by simp))
    generalize ckE s l picks = ce at *
    clear hs hl hp he
    go_enter Tryz.func3, Tryz.ntmps3
    go_wp2_with fail
    refine RN.out.mono ?_
    clear RN
    rintro e w1 ⟨rfl, b1⟩
    have B1 : Hid (Below w.heap.size w w1) := b1
    clear b1
    go_wp2_with fail
    refine (CD.out _ B1.out).mono ?_
    clear CD
    rintro e w2 ⟨rfl, b2⟩
    have B2 : Hid (Below w.heap.size w w2) := grow_trans B1.out b2
    clear b2 B1
    go_wp2_with fail
    refine (runBegun_any _).mono ?_
    rintro e w4 ⟨rfl, b4⟩
    have B4 : Hid (Below w.heap.size w w4) := grow_trans B2.out b4
    clear b4 B2
    go_wp2_with fail
    refine (CK.out _ B4.out).mono ?_
    clear CK
    rintro e w5 ⟨rfl, b5⟩
    have B5 : Hid (Below w.heap.size w w5) := grow_trans B4.out b5
    clear b5 B4
    go_wp2_with fail
    refine (SS.out _).mono ?_
    clear SS
    rintro e w6 ⟨rfl, b6⟩
    have B6 : Hid (Below w.heap.size w w6) := grow_trans B5.out b6
    clear b6 B5
    go_wp2_with fail
    refine (SQ.out _).mono ?_
    clear SQ
    rintro e w7 ⟨rfl, b7⟩
    have B7 : Hid (Below w.heap.size w w7) := grow_trans B6.out b7
    clear b7 B6
    go_wp2
    go_ret
    exact ⟨rfl, B7.out⟩
end Go.Proofs.YtikolifbljnokaaGreat
