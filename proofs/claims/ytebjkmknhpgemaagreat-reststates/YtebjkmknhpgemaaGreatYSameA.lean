/-
  
  Conditions: those that each theorem states.
-/
import Derived.Test.YtebjkmknhpgemaaGreatYBegA
import Derived.Test.YtebjkmknhpgemaaGreatYPlaceE
import Derived.Test.YtebjkmknhpgemaaGreatYTxnB
import Derived.WalkKit
import Derived.WalkSpells
import Derived.WalkLawsBesides
import Derived.Defers
import Derived.Recover
import Derived.ProofKit
import Derived.Deep.RegionHeld
import Derived.Deep.RegionHeld3
import Derived.Deep.RegionLaw
import Derived.Deep.DeepCutAuto
import Derived.Deep.QuietTactic
import Derived.BigQuiet
import Derived.Maps.AppendAt
import Derived.Lib.SliceRun
import Derived.Deep.AppendLies
namespace Go.Proofs.YtebjkmknhpgemaaGreat
open Go.RowKit
theorem sameInts_eq (zs : List Int) (a a' : Option Addr) (c c' : Nat) (w : World) (hl : zs.length ≤ 100) (h1 : IsInts w a zs) (h2 : IsInts w a' zs) :
    Calls Tryz.prog 37 #[.slice a zs.length c, .slice a' zs.length c'] w fun e w' => e = .returned (.bool true) ∧ Below w.heap.size w w' := by
  refine (sameInts_any zs zs a a' c c' w (by unfold maxLen; omega) h1 h2).mono ?_
  rintro e w' ⟨rfl, hb⟩
  exact ⟨by simp, hb⟩
variable (sa ra wa va sa' ra' wa' va' : Option Addr) (sc rc tc vc sc' rc' tc' vc' : Nat) (S : SA)
set_option maxRecDepth 100000 in
set_option maxHeartbeats 4000000 in
/-- Two states that are the same are found the same. -/
theorem sameStates_eq (w : World) (hs : Sta w sa ra wa va S) (ht : Sta w sa' ra' wa' va' S) (h8 : S.st.length ≤ 100) (hr : S.rd.length ≤ 100) (hw : S.wr.length ≤ 100) (hv : S.vs.length ≤ 100) (hb : ∀ i, (S.rd.getD i []).length ≤ 100 ∧ (S.wr.getD i []).length ≤ 100 ∧ (S.vs.getD i []).length ≤ 100) :
    Calls Tryz.prog 21 #[.agg #[.slice sa S.st.length sc, .slice ra S.rd.length rc, .slice wa S.wr.length tc, .slice va S.vs.length vc], .agg #[.slice sa' S.st.length sc', .slice ra' S.rd.length rc', .slice wa' S.wr.length tc', .slice va' S.vs.length vc']] w fun e w' => e = .returned (.bool true) ∧ Below w.heap.size w w' := by
  obtain ⟨W, hWe⟩ : ∃ W : World, W = ((w.alloc (.cells #[.slice sa S.st.length sc, .slice ra S.rd.length rc, .slice wa S.wr.length tc, .slice va S.vs.length vc] 29)).alloc (.cells #[.slice sa' S.st.length sc', .slice ra' S.rd.length rc', .slice wa' S.wr.length tc', .slice va' S.vs.length vc'] 29)) := ⟨_, rfl⟩
  have hW : Hid (Below w.heap.size w W) := by subst hWe; exact grow_alloc (grow_alloc (Below.refl _ _) _) _
  have x0 : W.cell? ⟨w.heap.size, 0, none⟩ = some (.slice sa S.st.length sc) := by subst hWe; exact ext_cell (grow_alloc (Below.refl _ _) _) (at_new _ _ 29 _ 0 _ rfl rfl)
  have x1 : W.cell? ⟨w.heap.size, 1, none⟩ = some (.slice ra S.rd.length rc) := by subst hWe; exact ext_cell (grow_alloc (Below.refl _ _) _) (at_new _ _ 29 _ 1 _ rfl rfl)
  have x2 : W.cell? ⟨w.heap.size, 2, none⟩ = some (.slice wa S.wr.length tc) := by subst hWe; exact ext_cell (grow_alloc (Below.refl _ _) _) (at_new _ _ 29 _ 2 _ rfl rfl)
  have x3 : W.cell? ⟨w.heap.size, 3, none⟩ = some (.slice va S.vs.length vc) := by subst hWe; exact ext_cell (grow_alloc (Below.refl _ _) _) (at_new _ _ 29 _ 3 _ rfl rfl)
  have y0 : W.cell? ⟨w.heap.size + 1, 0, none⟩ = some (.slice sa' S.st.length sc') := by subst hWe; exact at_new _ _ 29 _ 0 _ (by simp) rfl
  have y1 : W.cell? ⟨w.heap.size + 1, 1, none⟩ = some (.slice ra' S.rd.length rc') := by subst hWe; exact at_new _ _ 29 _ 1 _ (by simp) rfl
  have y2 : W.cell? ⟨w.heap.size + 1, 2, none⟩ = some (.slice wa' S.wr.length tc') := by subst hWe; exact at_new _ _ 29 _ 2 _ (by simp) rfl
  have y3 : W.cell? ⟨w.heap.size + 1, 3, none⟩ = some (.slice va' S.vs.length vc') := by subst hWe; exact at_new _ _ 29 _ 3 _ (by simp) rfl
  have KEEP : Hid (∀ w', Below W.heap.size W w' → w'.cell? ⟨w.heap.size, 0, none⟩ = some (.slice sa S.st.length sc) ∧ w'.cell? ⟨w.heap.size, 1, none⟩ = some (.slice ra S.rd.length rc) ∧ w'.cell? ⟨w.heap.size, 2, none⟩ = some (.slice wa S.wr.length tc) ∧ w'.cell? ⟨w.heap.size, 3, none⟩ = some (.slice va S.vs.length vc) ∧ w'.cell? ⟨w.heap.size + 1, 0, none⟩ = some (.slice sa' S.st.length sc') ∧ w'.cell? ⟨w.heap.size + 1, 1, none⟩ = some (.slice ra' S.rd.length rc') ∧ w'.cell? ⟨w.heap.size + 1, 2, none⟩ = some (.slice wa' S.wr.length tc') ∧ w'.cell? ⟨w.heap.size + 1, 3, none⟩ = some (.slice va' S.vs.length vc')) := fun w' hb => ⟨ext_cell hb x0, ext_cell hb x1, ext_cell hb x2, ext_cell hb x3, ext_cell hb y0, ext_cell hb y1, ext_cell hb y2, ext_cell hb y3⟩
  have HS : Hid (Sta W sa ra wa va S) := hs.below hW.out
  have HT : Hid (Sta W sa' ra' wa' va' S) := ht.below hW.out
  have HB : Hid (∀ i (_n : Nat), (S.rd.getD i []).length ≤ 100 ∧ (S.wr.getD i []).length ≤ 100 ∧ (S.vs.getD i []).length ≤ 100) := fun i _ => hb i
  clear hs ht hb x0 x1 x2 x3 y0 y1 y2 y3
  have HWe : Hid (W = _) := hWe
  clear hWe
  go_enter Tryz.func21, Tryz.ntmps21
  go_upto_region 1 with fail
  rw [← HWe.out]
  clear HWe
  obtain ⟨x0, x1, x2, x3, y0, y1, y2, y3⟩ := KEEP.out W (Below.refl _ _)
  go_wp2_with fail
  refine (sameInts_eq S.st sa sa' sc sc' _ h8 HS.out.st HT.out.st).mono ?_
  rintro e w0 ⟨rfl, hb0⟩
  have ATS : Hid (Below W.heap.size W w0) := hb0
  clear hb0 x0 x1 x2 x3 y0 y1 y2 y3
  obtain ⟨x0, x1, x2, x3, y0, y1, y2, y3⟩ := KEEP.out w0 ATS.out
  have b1 : ((S.rd.length : Int) != (S.rd.length : Int)) = false := by simp
  have b2 : ((S.wr.length : Int) != (S.wr.length : Int)) = false := by simp
  have b3 : ((S.vs.length : Int) != (S.vs.length : Int)) = false := by simp
  go_wp2
  clear x0 x1 x2 x3 y0 y1 y2 y3 b1 b2 b3
  go_loopw [5] (fun v wr => ∃ i : Nat, i ≤ S.rd.length ∧ v = .int .i64 i ∧ Hid (Below W.heap.size W wr)) (fun v _ => S.rd.length - (intOf v).toNat)
  case atStart => exact ⟨0, Nat.zero_le _, rfl, ATS⟩
  case round =>
    obtain ⟨i, hi, rfl, hB⟩ := hrel
    by_cases hlt : i < S.rd.length
    · have i1 : (i : Int) < (S.rd.length : Int) := by omega
      obtain ⟨x0, x1, x2, x3, y0, y1, y2, y3⟩ := KEEP.out wr hB.out
      obtain ⟨b, off, a0, c0, e, _, z0, zi, _⟩ := (HS.out.below hB.out).rd i hlt
      obtain ⟨b2, off2, a1, c1, e', _, z1, zi', _⟩ := (HT.out.below hB.out).rd i hlt
      rw [e] at x1
      rw [e'] at y1
      have CL : Hid (∀ w', Below wr.heap.size wr w' → Calls Tryz.prog 58 #[.slice a0 (S.rd.getD i []).length c0, .slice a1 (S.rd.getD i []).length c1] w' fun e w'' => e = .returned (.bool true) ∧ Below w'.heap.size w' w'') := fun w' hb => sameBools_eq (S.rd.getD i []) a0 a1 c0 c1 w' (HB.out i 0).1 (zi.below hb) (zi'.below hb)
      generalize S.rd.getD i [] = row at *
      clear e e' zi zi' x0 x2 x3 y0 y2 y3
      have KS : Hid (∀ w', Below wr.heap.size wr w' → w'.cell? ⟨w.heap.size, 1, none⟩ = some (.slice (some ⟨b, off, none⟩) S.rd.length rc) ∧ w'.cell? ⟨w.heap.size + 1, 1, none⟩ = some (.slice (some ⟨b2, off2, none⟩) S.rd.length rc') ∧ w'.cell? ⟨b, off + i, none⟩ = some (.slice a0 row.length c0) ∧ w'.cell? ⟨b2, off2 + i, none⟩ = some (.slice a1 row.length c1) ∧ Hid (Below wr.heap.size wr w')) := fun w' hb => ⟨ext_cell hb x1, ext_cell hb y1, ext_cell hb z0, ext_cell hb z1, hb⟩
      go_upto_region 6 with fail
      go_region_held3 (fun w' => w'.cell? ⟨w.heap.size, 1, none⟩ = some (.slice (some ⟨b, off, none⟩) S.rd.length rc) ∧ w'.cell? ⟨w.heap.size + 1, 1, none⟩ = some (.slice (some ⟨b2, off2, none⟩) S.rd.length rc') ∧ w'.cell? ⟨b, off + i, none⟩ = some (.slice a0 row.length c0) ∧ w'.cell? ⟨b2, off2 + i, none⟩ = some (.slice a1 row.length c1) ∧ Hid (Below wr.heap.size wr w')) ((refine KS.out _ ?_; go_split_ands; repeat (first | assumption | exact Below.refl _ _ | exact Hid.out (by assumption) | refine grow_drew ?_ | refine grow_alloc ?_ _ | refine grow_trans ?_ (by assumption))))
        (first
          | (go_at_call 58; refine (CL.out _ ?_).mono ?_; (go_split_ands; repeat (first | assumption | exact Below.refl _ _ | exact Hid.out (by assumption) | refine grow_drew ?_ | refine grow_alloc ?_ _ | refine grow_trans ?_ (by assumption))); rintro e w1 ⟨rfl, hb1⟩))
      all_goals (
        go_split_ands
        have B1 : Hid (Below W.heap.size W w1) := grow_trans hB.out (Hid.out (by assumption))
        go_wp2
        go_roundw
        case rel => exact ⟨i + 1, by omega, by go_num, B1⟩
        case measure => simp [intOf]; omega)
    · have i1 : ¬ (i : Int) < (S.rd.length : Int) := by omega
      obtain ⟨x0, x1, x2, x3, y0, y1, y2, y3⟩ := KEEP.out wr hB.out
      clear ATS
      have ATS : Hid (Below W.heap.size W wr) := hB
      clear hB hlt hi
      go_wp2
      clear i1 x0 x1 x2 x3 y0 y1 y2 y3
      go_loopw [6] (fun v wr => ∃ i : Nat, i ≤ S.wr.length ∧ v = .int .i64 i ∧ Hid (Below W.heap.size W wr)) (fun v _ => S.wr.length - (intOf v).toNat)
      case atStart => exact ⟨0, Nat.zero_le _, rfl, ATS⟩
      case round =>
        obtain ⟨i, hi, rfl, hB⟩ := hrel
        by_cases hlt : i < S.wr.length
        · have i1 : (i : Int) < (S.wr.length : Int) := by omega
          obtain ⟨x0, x1, x2, x3, y0, y1, y2, y3⟩ := KEEP.out wr hB.out
          obtain ⟨b, off, a0, c0, e, _, z0, zi, _⟩ := (HS.out.below hB.out).wr i hlt
          obtain ⟨b2, off2, a1, c1, e', _, z1, zi', _⟩ := (HT.out.below hB.out).wr i hlt
          rw [e] at x2
          rw [e'] at y2
          have CL : Hid (∀ w', Below wr.heap.size wr w' → Calls Tryz.prog 58 #[.slice a0 (S.wr.getD i []).length c0, .slice a1 (S.wr.getD i []).length c1] w' fun e w'' => e = .returned (.bool true) ∧ Below w'.heap.size w' w'') := fun w' hb => sameBools_eq (S.wr.getD i []) a0 a1 c0 c1 w' (HB.out i 0).2.1 (zi.below hb) (zi'.below hb)
          generalize S.wr.getD i [] = row at *
          clear e e' zi zi' x0 x1 x3 y0 y1 y3
          have KS : Hid (∀ w', Below wr.heap.size wr w' → w'.cell? ⟨w.heap.size, 2, none⟩ = some (.slice (some ⟨b, off, none⟩) S.wr.length tc) ∧ w'.cell? ⟨w.heap.size + 1, 2, none⟩ = some (.slice (some ⟨b2, off2, none⟩) S.wr.length tc') ∧ w'.cell? ⟨b, off + i, none⟩ = some (.slice a0 row.length c0) ∧ w'.cell? ⟨b2, off2 + i, none⟩ = some (.slice a1 row.length c1) ∧ Hid (Below wr.heap.size wr w')) := fun w' hb => ⟨ext_cell hb x2, ext_cell hb y2, ext_cell hb z0, ext_cell hb z1, hb⟩
          go_upto_region 11 with fail
          go_region_held3 (fun w' => w'.cell? ⟨w.heap.size, 2, none⟩ = some (.slice (some ⟨b, off, none⟩) S.wr.length tc) ∧ w'.cell? ⟨w.heap.size + 1, 2, none⟩ = some (.slice (some ⟨b2, off2, none⟩) S.wr.length tc') ∧ w'.cell? ⟨b, off + i, none⟩ = some (.slice a0 row.length c0) ∧ w'.cell? ⟨b2, off2 + i, none⟩ = some (.slice a1 row.length c1) ∧ Hid (Below wr.heap.size wr w')) ((refine KS.out _ ?_; go_split_ands; repeat (first | assumption | exact Below.refl _ _ | exact Hid.out (by assumption) | refine grow_drew ?_ | refine grow_alloc ?_ _ | refine grow_trans ?_ (by assumption))))
            (first
              | (go_at_call 58; refine (CL.out _ ?_).mono ?_; (go_split_ands; repeat (first | assumption | exact Below.refl _ _ | exact Hid.out (by assumption) | refine grow_drew ?_ | refine grow_alloc ?_ _ | refine grow_trans ?_ (by assumption))); rintro e w1 ⟨rfl, hb1⟩))
          all_goals (
            go_split_ands
            have B1 : Hid (Below W.heap.size W w1) := grow_trans hB.out (Hid.out (by assumption))
            go_wp2
            go_roundw
            case rel => exact ⟨i + 1, by omega, by go_num, B1⟩
            case measure => simp [intOf]; omega)
        · have i1 : ¬ (i : Int) < (S.wr.length : Int) := by omega
          obtain ⟨x0, x1, x2, x3, y0, y1, y2, y3⟩ := KEEP.out wr hB.out
          clear ATS
          have ATS : Hid (Below W.heap.size W wr) := hB
          clear hB hlt hi
          go_wp2
          clear i1 x0 x1 x2 x3 y0 y1 y2 y3
          go_loopw [7] (fun v wr => ∃ i : Nat, i ≤ S.vs.length ∧ v = .int .i64 i ∧ Hid (Below W.heap.size W wr)) (fun v _ => S.vs.length - (intOf v).toNat)
          case atStart => exact ⟨0, Nat.zero_le _, rfl, ATS⟩
          case round =>
            obtain ⟨i, hi, rfl, hB⟩ := hrel
            by_cases hlt : i < S.vs.length
            · have i1 : (i : Int) < (S.vs.length : Int) := by omega
              obtain ⟨x0, x1, x2, x3, y0, y1, y2, y3⟩ := KEEP.out wr hB.out
              obtain ⟨b, off, a0, c0, e, _, z0, zi, _⟩ := (HS.out.below hB.out).vs i hlt
              obtain ⟨b2, off2, a1, c1, e', _, z1, zi', _⟩ := (HT.out.below hB.out).vs i hlt
              rw [e] at x3
              rw [e'] at y3
              have CL : Hid (∀ w', Below wr.heap.size wr w' → Calls Tryz.prog 37 #[.slice a0 (S.vs.getD i []).length c0, .slice a1 (S.vs.getD i []).length c1] w' fun e w'' => e = .returned (.bool true) ∧ Below w'.heap.size w' w'') := fun w' hb => sameInts_eq (S.vs.getD i []) a0 a1 c0 c1 w' (HB.out i 0).2.2 (zi.below hb) (zi'.below hb)
              generalize S.vs.getD i [] = row at *
              clear e e' zi zi' x0 x1 x2 y0 y1 y2
              have KS : Hid (∀ w', Below wr.heap.size wr w' → w'.cell? ⟨w.heap.size, 3, none⟩ = some (.slice (some ⟨b, off, none⟩) S.vs.length vc) ∧ w'.cell? ⟨w.heap.size + 1, 3, none⟩ = some (.slice (some ⟨b2, off2, none⟩) S.vs.length vc') ∧ w'.cell? ⟨b, off + i, none⟩ = some (.slice a0 row.length c0) ∧ w'.cell? ⟨b2, off2 + i, none⟩ = some (.slice a1 row.length c1) ∧ Hid (Below wr.heap.size wr w')) := fun w' hb => ⟨ext_cell hb x3, ext_cell hb y3, ext_cell hb z0, ext_cell hb z1, hb⟩
              go_upto_region 16 with fail
              go_region_held3 (fun w' => w'.cell? ⟨w.heap.size, 3, none⟩ = some (.slice (some ⟨b, off, none⟩) S.vs.length vc) ∧ w'.cell? ⟨w.heap.size + 1, 3, none⟩ = some (.slice (some ⟨b2, off2, none⟩) S.vs.length vc') ∧ w'.cell? ⟨b, off + i, none⟩ = some (.slice a0 row.length c0) ∧ w'.cell? ⟨b2, off2 + i, none⟩ = some (.slice a1 row.length c1) ∧ Hid (Below wr.heap.size wr w')) ((refine KS.out _ ?_; go_split_ands; repeat (first | assumption | exact Below.refl _ _ | exact Hid.out (by assumption) | refine grow_drew ?_ | refine grow_alloc ?_ _ | refine grow_trans ?_ (by assumption))))
                (first
                  | (go_at_call 37; refine (CL.out _ ?_).mono ?_; (go_split_ands; repeat (first | assumption | exact Below.refl _ _ | exact Hid.out (by assumption) | refine grow_drew ?_ | refine grow_alloc ?_ _ | refine grow_trans ?_ (by assumption))); rintro e w1 ⟨rfl, hb1⟩))
              all_goals (
                go_split_ands
                have B1 : Hid (Below W.heap.size W w1) := grow_trans hB.out (Hid.out (by assumption))
                go_wp2
                go_roundw
                case rel => exact ⟨i + 1, by omega, by go_num, B1⟩
                case measure => simp [intOf]; omega)
            · have i1 : ¬ (i : Int) < (S.vs.length : Int) := by omega
              obtain ⟨x0, x1, x2, x3, y0, y1, y2, y3⟩ := KEEP.out wr hB.out
              have BF : Hid (Below w.heap.size w wr) := grow_trans hW.out hB.out
              go_wp2
              go_ret
              exact ⟨rfl, BF.out⟩
end Go.Proofs.YtebjkmknhpgemaaGreat
