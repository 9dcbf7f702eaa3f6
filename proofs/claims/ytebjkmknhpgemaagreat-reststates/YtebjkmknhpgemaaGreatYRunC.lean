/-
  
  Conditions: those that each theorem states.
-/
import Derived.Test.YtebjkmknhpgemaaGreatYEithA
import Derived.WalkKit
import Derived.WalkSpells
import Derived.WalkLawsBesides
import Derived.Defers
import Derived.Recover
import Derived.ProofKit
import Derived.Deep.RegionHeld
import Derived.Deep.RegionHeld3
import Derived.Deep.RegionLaw
import Derived.Deep.DeepCutAuto
import Derived.Deep.QuietTactic
import Derived.BigQuiet
import Derived.Maps.AppendAt
import Derived.Lib.SliceRun
import Derived.Deep.AppendLies
namespace Go.Proofs.YtebjkmknhpgemaaGreat
open Go.RowKit
theorem ints_two (w : World) (n : Nat) (x y : Int) (hn : n = w.heap.size) : IsInts (w.alloc (.cells #[.int .i64 x, .int .i64 y] 3)) (some ⟨n, 0, none⟩) [x, y] := by
  subst hn
  intro i hi
  refine ⟨w.heap.size, 0, rfl, by simp, ?_⟩
  match i, hi with
  | 0, _ => simp
  | 1, _ => simp
set_option maxRecDepth 100000 in
set_option maxHeartbeats 8000000 in
theorem stepsBegun_any (w : World) : Calls Tryz.prog 20 #[] w fun e w' => e = .returned (.bool true) ∧ Below w.heap.size w w' := by
  go_enter Tryz.func20, Tryz.ntmps20
  go_wp2_with fail
  refine (three_th _).mono ?_
  rintro e w1 ⟨l1, a1, rfl, hl1, ht1, hb1⟩
  go_wp2_with fail
  refine (five_any _).mono ?_
  rintro e w2 ⟨a2, rfl, hi2, hb2⟩
  go_wp2_with fail
  refine (stepsBegin_any a1 3 l1 a2 8 five5 2 _ (hl1.out.below hb2) hi2.out).mono ?_
  rintro e w3 ⟨q, rfl, hq, hb3⟩
  rw [ht1.out.beg]
  rw [ht1.out.stc] at hq
  have gA : Below w3.heap.size w3 (w3.alloc (.cells #[.slice q.sa q.sn q.sc, .slice q.ra q.rn q.rc, .slice q.wa q.wn q.tc, .slice q.va q.vn q.vc] 29)) := grow_alloc (Below.refl _ _) _
  have B0 : Hid (Below w.heap.size w (w3.alloc (.cells #[.slice q.sa q.sn q.sc, .slice q.ra q.rn q.rc, .slice q.wa q.wn q.tc, .slice q.va q.vn q.vc] 29))) := grow_trans hb1 (grow_trans hb2 (grow_trans hb3 gA))
  have hqq : Hid (StaQ STC q (w3.alloc (.cells #[.slice q.sa q.sn q.sc, .slice q.ra q.rn q.rc, .slice q.wa q.wn q.tc, .slice q.va q.vn q.vc] 29))) := hq.sta.below gA
  have k0 : (w3.alloc (.cells #[.slice q.sa q.sn q.sc, .slice q.ra q.rn q.rc, .slice q.wa q.wn q.tc, .slice q.va q.vn q.vc] 29)).cell? ⟨w3.heap.size, 0, none⟩ = some (.slice q.sa q.sn q.sc) := at_new _ _ 29 _ 0 _ rfl rfl
  have k1 : (w3.alloc (.cells #[.slice q.sa q.sn q.sc, .slice q.ra q.rn q.rc, .slice q.wa q.wn q.tc, .slice q.va q.vn q.vc] 29)).cell? ⟨w3.heap.size, 1, none⟩ = some (.slice q.ra q.rn q.rc) := at_new _ _ 29 _ 1 _ rfl rfl
  have k2 : (w3.alloc (.cells #[.slice q.sa q.sn q.sc, .slice q.ra q.rn q.rc, .slice q.wa q.wn q.tc, .slice q.va q.vn q.vc] 29)).cell? ⟨w3.heap.size, 2, none⟩ = some (.slice q.wa q.wn q.tc) := at_new _ _ 29 _ 2 _ rfl rfl
  have k3 : (w3.alloc (.cells #[.slice q.sa q.sn q.sc, .slice q.ra q.rn q.rc, .slice q.wa q.wn q.tc, .slice q.va q.vn q.vc] 29)).cell? ⟨w3.heap.size, 3, none⟩ = some (.slice q.va q.vn q.vc) := at_new _ _ 29 _ 3 _ rfl rfl
  clear hb1 hb2 hb3 gA hq hl1 ht1 hi2
  go_upto_region 2 with fail
  generalize w3.alloc (.cells #[.slice q.sa q.sn q.sc, .slice q.ra q.rn q.rc, .slice q.wa q.wn q.tc, .slice q.va q.vn q.vc] 29) = V at *
  generalize w3.heap.size = b1 at *
  have KS : Hid (∀ w', Below V.heap.size V w' → w'.cell? ⟨b1, 0, none⟩ = some (.slice q.sa q.sn q.sc) ∧ w'.cell? ⟨b1, 1, none⟩ = some (.slice q.ra q.rn q.rc) ∧ w'.cell? ⟨b1, 2, none⟩ = some (.slice q.wa q.wn q.tc) ∧ w'.cell? ⟨b1, 3, none⟩ = some (.slice q.va q.vn q.vc) ∧ Hid (Below V.heap.size V w')) := fun w' hb => ⟨ext_cell hb k0, ext_cell hb k1, ext_cell hb k2, ext_cell hb k3, hb⟩
  go_cut [3, 4] (fun s e wx => ∃ a c, s = .slice a 3 c ∧ e = .int .i64 0 ∧ Hid (IsSteps wx a [(1, 0, 0), (1, 0, 1), (1, 2, 1)]) ∧ Hid (Below V.heap.size V wx))
  case first =>
    clear k0 k1 k2 k3 B0
    go_region_held3 (fun w' => w'.cell? ⟨b1, 0, none⟩ = some (.slice q.sa q.sn q.sc) ∧ w'.cell? ⟨b1, 1, none⟩ = some (.slice q.ra q.rn q.rc) ∧ w'.cell? ⟨b1, 2, none⟩ = some (.slice q.wa q.wn q.tc) ∧ w'.cell? ⟨b1, 3, none⟩ = some (.slice q.va q.vn q.vc) ∧ Hid (Below V.heap.size V w')) ((refine KS.out _ ?_; go_split_ands; repeat (first | assumption | exact Below.refl _ _ | exact Hid.out (by assumption) | refine grow_drew ?_ | refine grow_alloc ?_ _ | refine grow_set ?_ (by first | exact Nat.le_refl _ | assumption) _ | refine grow_trans ?_ (by assumption))))
      (first
        | (go_at_call 56; refine (three_th _).mono ?_; rintro e wa ⟨lwa, awa, rfl, hlwa, htwa, hbwa⟩; have hzwa : V.heap.size ≤ wa.heap.size := size_le (grow_trans (by first | exact Below.refl _ _ | exact grow_drew (Below.refl _ _) | exact grow_alloc (Below.refl _ _) _ | exact grow_alloc (grow_drew (Below.refl _ _)) _ | exact grow_drew (grow_alloc (Below.refl _ _) _) : Below V.heap.size V _) hbwa))
        | (go_at_call 24; refine (can_q (m := 2) (S := STC) (q := q) (hlwa.out.below ?_) (hqq.out.below ?_)).mono ?_; (go_split_ands; repeat (first | exact Below.refl _ _ | exact grow_drew (Below.refl _ _))); (go_split_ands; first | exact Hid.out (by assumption) | (repeat (first | assumption | exact Below.refl _ _ | exact Hid.out (by assumption) | refine grow_drew ?_ | refine grow_alloc ?_ _ | refine grow_set ?_ (by first | exact Nat.le_refl _ | assumption) _ | refine grow_trans ?_ (by assumption)))); rintro e wb ⟨a5, c5, rfl, h5, hbwb⟩; rw [htwa.out.st]; rw [htwa.out.can] at h5 ⊢))
    all_goals (go_wp2_with fail; go_meet)
    all_goals (
      go_split_ands
      exact ⟨a5, c5, rfl, rfl, h5, Hid.out (by assumption)⟩)
  case rest =>
    obtain ⟨sa, sc, rfl, rfl, hst, hbc⟩ := hcut
    obtain ⟨V1, hren⟩ : ∃ V1 : World, V1 = wc := ⟨_, rfl⟩
    subst hren
    have k0 := ext_cell hbc.out k0
    have k1 := ext_cell hbc.out k1
    have k2 := ext_cell hbc.out k2
    have k3 := ext_cell hbc.out k3
    have B1 : Hid (Below w.heap.size w V1) := grow_trans B0.out hbc.out
    have hqq1 : Hid (StaQ STC q V1) := hqq.out.below hbc.out
    clear KS hqq B0 hbc
    obtain ⟨V, hren⟩ : ∃ V : World, V = V1 := ⟨_, rfl⟩
    subst hren
    have hst1 := hst
    clear hst
    go_upto_region 3 with fail
    have KS : Hid (∀ w', Below V.heap.size V w' → w'.cell? ⟨b1, 0, none⟩ = some (.slice q.sa q.sn q.sc) ∧ w'.cell? ⟨b1, 1, none⟩ = some (.slice q.ra q.rn q.rc) ∧ w'.cell? ⟨b1, 2, none⟩ = some (.slice q.wa q.wn q.tc) ∧ w'.cell? ⟨b1, 3, none⟩ = some (.slice q.va q.vn q.vc) ∧ Hid (Below V.heap.size V w')) := fun w' hb => ⟨ext_cell hb k0, ext_cell hb k1, ext_cell hb k2, ext_cell hb k3, hb⟩
    go_cut [5, 6] (fun s e wx => ∃ (b5 : Nat) (q5 : Q4), s = .pointer (some ⟨b5, 0, none⟩) ∧ e = .int .i64 0 ∧ wx.cell? ⟨b5, 0, none⟩ = some (.slice q5.sa q5.sn q5.sc) ∧ wx.cell? ⟨b5, 1, none⟩ = some (.slice q5.ra q5.rn q5.rc) ∧ wx.cell? ⟨b5, 2, none⟩ = some (.slice q5.wa q5.wn q5.tc) ∧ wx.cell? ⟨b5, 3, none⟩ = some (.slice q5.va q5.vn q5.vc) ∧ Hid (StaQ MVC q5 wx) ∧ Hid (Below V.heap.size V wx))
    case first =>
      clear k0 k1 k2 k3 B1 hst1
      go_region_held3 (fun w' => w'.cell? ⟨b1, 0, none⟩ = some (.slice q.sa q.sn q.sc) ∧ w'.cell? ⟨b1, 1, none⟩ = some (.slice q.ra q.rn q.rc) ∧ w'.cell? ⟨b1, 2, none⟩ = some (.slice q.wa q.wn q.tc) ∧ w'.cell? ⟨b1, 3, none⟩ = some (.slice q.va q.vn q.vc) ∧ Hid (Below V.heap.size V w')) ((refine KS.out _ ?_; go_split_ands; repeat (first | assumption | exact Below.refl _ _ | exact Hid.out (by assumption) | refine grow_drew ?_ | refine grow_alloc ?_ _ | refine grow_set ?_ (by first | exact Nat.le_refl _ | assumption) _ | refine grow_trans ?_ (by assumption))))
        (first
          | (go_at_call 56; refine (three_th _).mono ?_; rintro e wa ⟨lwa, awa, rfl, hlwa, htwa, hbwa⟩; have hzwa : V.heap.size ≤ wa.heap.size := size_le (grow_trans (by first | exact Below.refl _ _ | exact grow_drew (Below.refl _ _) | exact grow_alloc (Below.refl _ _) _ | exact grow_alloc (grow_drew (Below.refl _ _)) _ | exact grow_drew (grow_alloc (Below.refl _ _) _) : Below V.heap.size V _) hbwa); (first | (obtain ⟨fr0, fr1, fr2, fr3, frf, frl⟩ := fresh4 (V := V) hbwa rfl) | skip))
          | (go_at_call 26; refine (do_q 1 0 1 (m := 2) (S := STC) (q := q) (hlwa.out.below ?_) (hqq1.out.below ?_)).mono ?_; (go_split_ands; repeat (first | exact Below.refl _ _ | exact grow_drew (Below.refl _ _) | exact grow_alloc (Below.refl _ _) _ | exact grow_drew (grow_alloc (Below.refl _ _) _) | exact grow_alloc (grow_drew (Below.refl _ _)) _)); (go_split_ands; first | exact Hid.out (by assumption) | (repeat (first | assumption | exact Below.refl _ _ | exact Hid.out (by assumption) | refine grow_drew ?_ | refine grow_alloc ?_ _ | refine grow_set ?_ (by first | exact Nat.le_refl _ | assumption) _ | refine grow_trans ?_ (by assumption)))); rintro e wb ⟨q5, rfl, h5, hbwb⟩; have hzwb : V.heap.size ≤ wb.heap.size := Nat.le_trans hzwa (size_le (grow_trans (by first | exact Below.refl _ _ | exact grow_drew (Below.refl _ _) | exact grow_alloc (Below.refl _ _) _ | exact grow_alloc (grow_drew (Below.refl _ _)) _ | exact grow_drew (grow_alloc (Below.refl _ _) _) : Below wa.heap.size wa _) hbwb)); rw [htwa.out.do1]; rw [htwa.out.mvc] at h5; (first | (obtain ⟨t0, t1, t2, t3, tf, tl⟩ := fresh4 (V := wa) hbwb rfl) | (revert fr0; intro fr0; obtain ⟨t0, t1, t2, t3, tf, tl⟩ := fresh4_on hbwb fr0 fr1 fr2 fr3 frf rfl) | skip)))
      all_goals (go_wp2_with fail; go_meet)
      all_goals (
        go_split_ands
        first
          | exact ⟨_, q5, rfl, rfl, by simp, by simp, by simp, by simp, (h5.sta).below (grow_alloc (Below.refl _ _) _), Hid.out (by assumption)⟩
          | exact ⟨_, q5, rfl, rfl, (set_off (by decide) (set_off (by decide) (set_off (by decide) (set_here t0)))), (set_off (by decide) (set_off (by decide) (set_here (set_off (by decide) t1)))), (set_off (by decide) (set_here (set_off (by decide) (set_off (by decide) t2)))), (set_here (set_off (by decide) (set_off (by decide) (set_off (by decide) t3)))), ((((h5.set _ 0 _ tl).set _ 1 _ tl).set _ 2 _ tl).set _ 3 _ tl).sta, Hid.out (by assumption)⟩)
    case rest =>
      obtain ⟨b5, q5, rfl, rfl, m0, m1, m2, m3, hm, hbc⟩ := hcut
      obtain ⟨W, hren⟩ : ∃ W : World, W = wc := ⟨_, rfl⟩
      subst hren
      have k0 := ext_cell hbc.out k0
      have k1 := ext_cell hbc.out k1
      have k2 := ext_cell hbc.out k2
      have k3 := ext_cell hbc.out k3
      have B2 : Hid (Below w.heap.size w W) := grow_trans B1.out hbc.out
      have hqq2 : Hid (StaQ STC q W) := hqq1.out.below hbc.out
      have hst2 : Hid (IsSteps W sa [(1, 0, 0), (1, 0, 1), (1, 2, 1)]) := hst1.out.below hbc.out
      have hm2 : Hid (StaQ MVC q5 W) := hm
      clear KS hqq1 B1 hst1 hm hbc
      obtain ⟨V, hren⟩ : ∃ V : World, V = W := ⟨_, rfl⟩
      subst hren
      go_upto_region 4 with fail
      have KS : Hid (∀ w', Below V.heap.size V w' → w'.cell? ⟨b1, 0, none⟩ = some (.slice q.sa q.sn q.sc) ∧ w'.cell? ⟨b1, 1, none⟩ = some (.slice q.ra q.rn q.rc) ∧ w'.cell? ⟨b1, 2, none⟩ = some (.slice q.wa q.wn q.tc) ∧ w'.cell? ⟨b1, 3, none⟩ = some (.slice q.va q.vn q.vc) ∧ Hid (Below V.heap.size V w')) := fun w' hb => ⟨ext_cell hb k0, ext_cell hb k1, ext_cell hb k2, ext_cell hb k3, hb⟩
      go_cut [8] (fun e wx => e = .int .i64 6 ∧ Hid (Below V.heap.size V wx))
      case first =>
        clear k0 k1 k2 k3 m0 m1 m2 m3 B2 hst2 hm2
        go_region_held3 (fun w' => w'.cell? ⟨b1, 0, none⟩ = some (.slice q.sa q.sn q.sc) ∧ w'.cell? ⟨b1, 1, none⟩ = some (.slice q.ra q.rn q.rc) ∧ w'.cell? ⟨b1, 2, none⟩ = some (.slice q.wa q.wn q.tc) ∧ w'.cell? ⟨b1, 3, none⟩ = some (.slice q.va q.vn q.vc) ∧ Hid (Below V.heap.size V w')) ((refine KS.out _ ?_; go_split_ands; repeat (first | assumption | exact Below.refl _ _ | exact Hid.out (by assumption) | refine grow_drew ?_ | refine grow_alloc ?_ _ | refine grow_set ?_ (by first | exact Nat.le_refl _ | assumption) _ | refine grow_trans ?_ (by assumption))))
          (first
            | (go_at_call 56; refine (three_th _).mono ?_; rintro e wa ⟨lwa, awa, rfl, hlwa, htwa, hbwa⟩; have hzwa : V.heap.size ≤ wa.heap.size := size_le (grow_trans (by first | exact Below.refl _ _ | exact grow_drew (Below.refl _ _) | exact grow_alloc (Below.refl _ _) _ | exact grow_alloc (grow_drew (Below.refl _ _)) _ | exact grow_drew (grow_alloc (Below.refl _ _) _) : Below V.heap.size V _) hbwa); (first | (obtain ⟨fr0, fr1, fr2, fr3, frf, frl⟩ := fresh4 (V := V) hbwa rfl) | skip))
            | (go_at_call 26; refine (do_q 1 1 1 (m := 2) (S := STC) (q := q) (hlwa.out.below ?_) (hqq2.out.below ?_)).mono ?_; (go_split_ands; repeat (first | exact Below.refl _ _ | exact grow_drew (Below.refl _ _) | exact grow_alloc (Below.refl _ _) _ | exact grow_drew (grow_alloc (Below.refl _ _) _) | exact grow_alloc (grow_drew (Below.refl _ _)) _)); (go_split_ands; first | exact Hid.out (by assumption) | (repeat (first | assumption | exact Below.refl _ _ | exact Hid.out (by assumption) | refine grow_drew ?_ | refine grow_alloc ?_ _ | refine grow_set ?_ (by first | exact Nat.le_refl _ | assumption) _ | refine grow_trans ?_ (by assumption)))); rintro e wb ⟨q6, rfl, h5, hbwb⟩; have hzwb : V.heap.size ≤ wb.heap.size := Nat.le_trans hzwa (size_le (grow_trans (by first | exact Below.refl _ _ | exact grow_drew (Below.refl _ _) | exact grow_alloc (Below.refl _ _) _ | exact grow_alloc (grow_drew (Below.refl _ _)) _ | exact grow_drew (grow_alloc (Below.refl _ _) _) : Below wa.heap.size wa _) hbwb)); rw [htwa.out.do2]; (first | (obtain ⟨t0, t1, t2, t3, tf, tl⟩ := fresh4 (V := wa) hbwb rfl) | (revert fr0; intro fr0; obtain ⟨t0, t1, t2, t3, tf, tl⟩ := fresh4_on hbwb fr0 fr1 fr2 fr3 frf rfl) | skip)))
        all_goals (go_wp2_with fail; go_meet)
        all_goals (
          go_split_ands
          first
            | exact ⟨rfl, Hid.out (by assumption)⟩
            | exact ⟨rfl, Hid.out (by assumption)⟩)
      case rest =>
        obtain ⟨rfl, hbc⟩ := hcut
        obtain ⟨W, hren⟩ : ∃ W : World, W = wc := ⟨_, rfl⟩
        subst hren
        have k0 := ext_cell hbc.out k0
        have k1 := ext_cell hbc.out k1
        have k2 := ext_cell hbc.out k2
        have k3 := ext_cell hbc.out k3
        have B3 : Hid (Below w.heap.size w W) := grow_trans B2.out hbc.out
        have hqq3 : Hid (StaQ STC q W) := hqq2.out.below hbc.out
        have hst3 : Hid (IsSteps W sa [(1, 0, 0), (1, 0, 1), (1, 2, 1)]) := hst2.out.below hbc.out
        have m0 := ext_cell hbc.out m0
        have m1 := ext_cell hbc.out m1
        have m2 := ext_cell hbc.out m2
        have m3 := ext_cell hbc.out m3
        have hm3 : Hid (StaQ MVC q5 W) := hm2.out.below hbc.out
        clear KS hqq2 B2 hst2 hm2 hbc
        obtain ⟨V, hren⟩ : ∃ V : World, V = W := ⟨_, rfl⟩
        subst hren
        go_upto_region 5 with fail
        have KS : Hid (∀ w', Below V.heap.size V w' → w'.cell? ⟨b5, 0, none⟩ = some (.slice q5.sa q5.sn q5.sc) ∧ w'.cell? ⟨b5, 1, none⟩ = some (.slice q5.ra q5.rn q5.rc) ∧ w'.cell? ⟨b5, 2, none⟩ = some (.slice q5.wa q5.wn q5.tc) ∧ w'.cell? ⟨b5, 3, none⟩ = some (.slice q5.va q5.vn q5.vc) ∧ Hid (Below V.heap.size V w')) := fun w' hb => ⟨ext_cell hb m0, ext_cell hb m1, ext_cell hb m2, ext_cell hb m3, hb⟩
        go_cut [10] (fun e wx => e = .int .i64 7 ∧ Hid (Below V.heap.size V wx))
        case first =>
          clear k0 k1 k2 k3 m0 m1 m2 m3 B3 hst3 hqq3
          go_region_held3 (fun w' => w'.cell? ⟨b5, 0, none⟩ = some (.slice q5.sa q5.sn q5.sc) ∧ w'.cell? ⟨b5, 1, none⟩ = some (.slice q5.ra q5.rn q5.rc) ∧ w'.cell? ⟨b5, 2, none⟩ = some (.slice q5.wa q5.wn q5.tc) ∧ w'.cell? ⟨b5, 3, none⟩ = some (.slice q5.va q5.vn q5.vc) ∧ Hid (Below V.heap.size V w')) ((refine KS.out _ ?_; go_split_ands; repeat (first | assumption | exact Below.refl _ _ | exact Hid.out (by assumption) | refine grow_drew ?_ | refine grow_alloc ?_ _ | refine grow_set ?_ (by first | exact Nat.le_refl _ | assumption) _ | refine grow_trans ?_ (by assumption))))
            (first
              | (go_at_call 56; refine (three_th _).mono ?_; rintro e wa ⟨lwa, awa, rfl, hlwa, htwa, hbwa⟩; have hzwa : V.heap.size ≤ wa.heap.size := size_le (grow_trans (by first | exact Below.refl _ _ | exact grow_drew (Below.refl _ _) | exact grow_alloc (Below.refl _ _) _ | exact grow_alloc (grow_drew (Below.refl _ _)) _ | exact grow_drew (grow_alloc (Below.refl _ _) _) : Below V.heap.size V _) hbwa); (first | (obtain ⟨fr0, fr1, fr2, fr3, frf, frl⟩ := fresh4 (V := V) hbwa rfl) | skip))
              | (go_at_call 26; refine (do_q 1 0 1 (m := 2) (S := MVC) (q := q5) (hlwa.out.below ?_) (hm3.out.below ?_)).mono ?_; (go_split_ands; repeat (first | exact Below.refl _ _ | exact grow_drew (Below.refl _ _) | exact grow_alloc (Below.refl _ _) _ | exact grow_drew (grow_alloc (Below.refl _ _) _) | exact grow_alloc (grow_drew (Below.refl _ _)) _)); (go_split_ands; first | exact Hid.out (by assumption) | (repeat (first | assumption | exact Below.refl _ _ | exact Hid.out (by assumption) | refine grow_drew ?_ | refine grow_alloc ?_ _ | refine grow_set ?_ (by first | exact Nat.le_refl _ | assumption) _ | refine grow_trans ?_ (by assumption)))); rintro e wb ⟨q6, rfl, h5, hbwb⟩; have hzwb : V.heap.size ≤ wb.heap.size := Nat.le_trans hzwa (size_le (grow_trans (by first | exact Below.refl _ _ | exact grow_drew (Below.refl _ _) | exact grow_alloc (Below.refl _ _) _ | exact grow_alloc (grow_drew (Below.refl _ _)) _ | exact grow_drew (grow_alloc (Below.refl _ _) _) : Below wa.heap.size wa _) hbwb)); rw [htwa.out.do3]; (first | (obtain ⟨t0, t1, t2, t3, tf, tl⟩ := fresh4 (V := wa) hbwb rfl) | (revert fr0; intro fr0; obtain ⟨t0, t1, t2, t3, tf, tl⟩ := fresh4_on hbwb fr0 fr1 fr2 fr3 frf rfl) | skip)))
          all_goals (go_wp2_with fail; go_meet)
          all_goals (
            go_split_ands
            first
              | exact ⟨rfl, Hid.out (by assumption)⟩
              | exact ⟨rfl, Hid.out (by assumption)⟩)
        case rest =>
          obtain ⟨rfl, hbc⟩ := hcut
          obtain ⟨W, hren⟩ : ∃ W : World, W = wc := ⟨_, rfl⟩
          subst hren
          have k0 := ext_cell hbc.out k0
          have k1 := ext_cell hbc.out k1
          have k2 := ext_cell hbc.out k2
          have k3 := ext_cell hbc.out k3
          have B4 : Hid (Below w.heap.size w W) := grow_trans B3.out hbc.out
          have hqq4 : Hid (StaQ STC q W) := hqq3.out.below hbc.out
          have hst4 : Hid (IsSteps W sa [(1, 0, 0), (1, 0, 1), (1, 2, 1)]) := hst3.out.below hbc.out
          have m0 := ext_cell hbc.out m0
          have m1 := ext_cell hbc.out m1
          have m2 := ext_cell hbc.out m2
          have m3 := ext_cell hbc.out m3
          have hm4 : Hid (StaQ MVC q5 W) := hm3.out.below hbc.out
          clear KS hqq3 B3 hst3 hm3 hbc
          obtain ⟨V, hren⟩ : ∃ V : World, V = W := ⟨_, rfl⟩
          subst hren
          go_upto_region 6 with fail
          have KS : Hid (∀ w', Below V.heap.size V w' → w'.cell? ⟨b5, 0, none⟩ = some (.slice q5.sa q5.sn q5.sc) ∧ w'.cell? ⟨b5, 1, none⟩ = some (.slice q5.ra q5.rn q5.rc) ∧ w'.cell? ⟨b5, 2, none⟩ = some (.slice q5.wa q5.wn q5.tc) ∧ w'.cell? ⟨b5, 3, none⟩ = some (.slice q5.va q5.vn q5.vc) ∧ Hid (Below V.heap.size V w')) := fun w' hb => ⟨ext_cell hb m0, ext_cell hb m1, ext_cell hb m2, ext_cell hb m3, hb⟩
          go_cut [12] (fun e wx => e = .int .i64 5 ∧ Hid (Below V.heap.size V wx))
          case first =>
            clear k0 k1 k2 k3 m0 m1 m2 m3 B4 hst4 hqq4
            go_region_held3 (fun w' => w'.cell? ⟨b5, 0, none⟩ = some (.slice q5.sa q5.sn q5.sc) ∧ w'.cell? ⟨b5, 1, none⟩ = some (.slice q5.ra q5.rn q5.rc) ∧ w'.cell? ⟨b5, 2, none⟩ = some (.slice q5.wa q5.wn q5.tc) ∧ w'.cell? ⟨b5, 3, none⟩ = some (.slice q5.va q5.vn q5.vc) ∧ Hid (Below V.heap.size V w')) ((refine KS.out _ ?_; go_split_ands; repeat (first | assumption | exact Below.refl _ _ | exact Hid.out (by assumption) | refine grow_drew ?_ | refine grow_alloc ?_ _ | refine grow_set ?_ (by first | exact Nat.le_refl _ | assumption) _ | refine grow_trans ?_ (by assumption))))
              (first
                | (go_at_call 56; refine (three_th _).mono ?_; rintro e wa ⟨lwa, awa, rfl, hlwa, htwa, hbwa⟩; have hzwa : V.heap.size ≤ wa.heap.size := size_le (grow_trans (by first | exact Below.refl _ _ | exact grow_drew (Below.refl _ _) | exact grow_alloc (Below.refl _ _) _ | exact grow_alloc (grow_drew (Below.refl _ _)) _ | exact grow_drew (grow_alloc (Below.refl _ _) _) : Below V.heap.size V _) hbwa); (first | (obtain ⟨fr0, fr1, fr2, fr3, frf, frl⟩ := fresh4 (V := V) hbwa rfl) | skip))
                | (go_at_call 26; refine (do_q 2 2 0 (m := 2) (S := MVC) (q := q5) (hlwa.out.below ?_) (hm4.out.below ?_)).mono ?_; (go_split_ands; repeat (first | exact Below.refl _ _ | exact grow_drew (Below.refl _ _) | exact grow_alloc (Below.refl _ _) _ | exact grow_drew (grow_alloc (Below.refl _ _) _) | exact grow_alloc (grow_drew (Below.refl _ _)) _)); (go_split_ands; first | exact Hid.out (by assumption) | (repeat (first | assumption | exact Below.refl _ _ | exact Hid.out (by assumption) | refine grow_drew ?_ | refine grow_alloc ?_ _ | refine grow_set ?_ (by first | exact Nat.le_refl _ | assumption) _ | refine grow_trans ?_ (by assumption)))); rintro e wb ⟨q6, rfl, h5, hbwb⟩; have hzwb : V.heap.size ≤ wb.heap.size := Nat.le_trans hzwa (size_le (grow_trans (by first | exact Below.refl _ _ | exact grow_drew (Below.refl _ _) | exact grow_alloc (Below.refl _ _) _ | exact grow_alloc (grow_drew (Below.refl _ _)) _ | exact grow_drew (grow_alloc (Below.refl _ _) _) : Below wa.heap.size wa _) hbwb)); rw [htwa.out.do4]; (first | (obtain ⟨t0, t1, t2, t3, tf, tl⟩ := fresh4 (V := wa) hbwb rfl) | (revert fr0; intro fr0; obtain ⟨t0, t1, t2, t3, tf, tl⟩ := fresh4_on hbwb fr0 fr1 fr2 fr3 frf rfl) | skip)))
            all_goals (go_wp2_with fail; go_meet)
            all_goals (
              go_split_ands
              first
                | exact ⟨rfl, Hid.out (by assumption)⟩
                | exact ⟨rfl, Hid.out (by assumption)⟩)
          case rest =>
            obtain ⟨rfl, hbc⟩ := hcut
            obtain ⟨W, hren⟩ : ∃ W : World, W = wc := ⟨_, rfl⟩
            subst hren
            have k0 := ext_cell hbc.out k0
            have k1 := ext_cell hbc.out k1
            have k2 := ext_cell hbc.out k2
            have k3 := ext_cell hbc.out k3
            have B5 : Hid (Below w.heap.size w W) := grow_trans B4.out hbc.out
            have hqq5 : Hid (StaQ STC q W) := hqq4.out.below hbc.out
            have hst5 : Hid (IsSteps W sa [(1, 0, 0), (1, 0, 1), (1, 2, 1)]) := hst4.out.below hbc.out
            have m0 := ext_cell hbc.out m0
            have m1 := ext_cell hbc.out m1
            have m2 := ext_cell hbc.out m2
            have m3 := ext_cell hbc.out m3
            have hm5 : Hid (StaQ MVC q5 W) := hm4.out.below hbc.out
            clear KS hqq4 B4 hst4 hm4 hbc
            obtain ⟨V, hren⟩ : ∃ V : World, V = W := ⟨_, rfl⟩
            subst hren
            go_upto_region 7 with fail
            have KS : Hid (∀ w', Below V.heap.size V w' → w'.cell? ⟨b1, 0, none⟩ = some (.slice q.sa q.sn q.sc) ∧ w'.cell? ⟨b1, 1, none⟩ = some (.slice q.ra q.rn q.rc) ∧ w'.cell? ⟨b1, 2, none⟩ = some (.slice q.wa q.wn q.tc) ∧ w'.cell? ⟨b1, 3, none⟩ = some (.slice q.va q.vn q.vc) ∧ Hid (Below V.heap.size V w')) := fun w' hb => ⟨ext_cell hb k0, ext_cell hb k1, ext_cell hb k2, ext_cell hb k3, hb⟩
            go_cut [13, 14] (fun s e wx => s = .bool false ∧ e = .int .i64 0 ∧ Hid (Below V.heap.size V wx))
            case first =>
              clear k0 k1 k2 k3 m0 m1 m2 m3 B5 hst5 hm5
              go_region_held3 (fun w' => w'.cell? ⟨b1, 0, none⟩ = some (.slice q.sa q.sn q.sc) ∧ w'.cell? ⟨b1, 1, none⟩ = some (.slice q.ra q.rn q.rc) ∧ w'.cell? ⟨b1, 2, none⟩ = some (.slice q.wa q.wn q.tc) ∧ w'.cell? ⟨b1, 3, none⟩ = some (.slice q.va q.vn q.vc) ∧ Hid (Below V.heap.size V w')) ((refine KS.out _ ?_; go_split_ands; repeat (first | assumption | exact Below.refl _ _ | exact Hid.out (by assumption) | refine grow_drew ?_ | refine grow_alloc ?_ _ | refine grow_set ?_ (by first | exact Nat.le_refl _ | assumption) _ | refine grow_trans ?_ (by assumption))))
                (first
                  | (go_at_call 56; refine (three_th _).mono ?_; rintro e wa ⟨lwa, awa, rfl, hlwa, htwa, hbwa⟩; have hzwa : V.heap.size ≤ wa.heap.size := size_le (grow_trans (by first | exact Below.refl _ _ | exact grow_drew (Below.refl _ _) | exact grow_alloc (Below.refl _ _) _ | exact grow_alloc (grow_drew (Below.refl _ _)) _ | exact grow_drew (grow_alloc (Below.refl _ _) _) : Below V.heap.size V _) hbwa))
                  | (go_at_call 15; refine (over_q (m := 2) (S := STC) (q := q) (hlwa.out.below ?_) (hqq5.out.below ?_)).mono ?_; (go_split_ands; repeat (first | exact Below.refl _ _ | exact grow_drew (Below.refl _ _))); (go_split_ands; first | exact Hid.out (by assumption) | (repeat (first | assumption | exact Below.refl _ _ | exact Hid.out (by assumption) | refine grow_drew ?_ | refine grow_alloc ?_ _ | refine grow_set ?_ (by first | exact Nat.le_refl _ | assumption) _ | refine grow_trans ?_ (by assumption)))); rintro e wb ⟨rfl, hbwb⟩; rw [htwa.out.st, htwa.out.ov]))
              all_goals (go_wp2_with fail; go_meet)
              all_goals (
                go_split_ands
                exact ⟨rfl, rfl, Hid.out (by assumption)⟩)
            case rest =>
              obtain ⟨rfl, rfl, hbc⟩ := hcut
              obtain ⟨W, hren⟩ : ∃ W : World, W = wc := ⟨_, rfl⟩
              subst hren
              have k0 := ext_cell hbc.out k0
              have k1 := ext_cell hbc.out k1
              have k2 := ext_cell hbc.out k2
              have k3 := ext_cell hbc.out k3
              have B6 : Hid (Below w.heap.size w W) := grow_trans B5.out hbc.out
              have hqq6 : Hid (StaQ STC q W) := hqq5.out.below hbc.out
              have hst6 : Hid (IsSteps W sa [(1, 0, 0), (1, 0, 1), (1, 2, 1)]) := hst5.out.below hbc.out
              have m0 := ext_cell hbc.out m0
              have m1 := ext_cell hbc.out m1
              have m2 := ext_cell hbc.out m2
              have m3 := ext_cell hbc.out m3
              have hm6 : Hid (StaQ MVC q5 W) := hm5.out.below hbc.out
              clear KS hqq5 B5 hst5 hm5 hbc
              obtain ⟨V, hren⟩ : ∃ V : World, V = W := ⟨_, rfl⟩
              subst hren
              have hvs : Hid (MVC.vs = [[0, 1], [0], []]) := th_vs
              obtain ⟨bv, ov, a0, c0, ev, _, v0, vi, vz⟩ := hm6.out.2.2.2.2.vs 0 (by rw [hvs.out]; decide)
              have evn : q5.vn = 3 := hm6.out.2.2.2.1.trans (by rw [hvs.out]; rfl)
              rw [hvs.out] at v0 vi
              have v0 : V.cell? ⟨bv, ov, none⟩ = some (.slice a0 2 c0) := v0
              have VI : Hid (IsInts V a0 [0, 1]) := vi
              rw [ev, evn] at m3
              obtain ⟨bs, os, es, _, s0, s1, s2⟩ := hst6.out 2 (by decide)
              have s0 : V.cell? ⟨bs, os + 6, none⟩ = some (.int .i64 1) := s0
              have s1 : V.cell? ⟨bs, os + 6 + 1, none⟩ = some (.int .i64 2) := s1
              have s2 : V.cell? ⟨bs, os + 6 + 2, none⟩ = some (.int .i64 1) := s2
              subst es
              clear vi vz ev evn hst6 hm6 m0 m1 m2 hvs
              have q48 : ∀ w, (binOp .eql 48 (.agg #[.int .i64 1, .int .i64 2, .int .i64 1]) (.agg #[.int .i64 1, .int .i64 2, .int .i64 1])).run Tryz.prog w = .ok (.bool true) w := fun w => by kernel_rfl
              have KS : Hid (∀ w', Below V.heap.size V w' → w'.cell? ⟨b1, 0, none⟩ = some (.slice q.sa q.sn q.sc) ∧ w'.cell? ⟨b1, 1, none⟩ = some (.slice q.ra q.rn q.rc) ∧ w'.cell? ⟨b1, 2, none⟩ = some (.slice q.wa q.wn q.tc) ∧ w'.cell? ⟨b1, 3, none⟩ = some (.slice q.va q.vn q.vc) ∧ w'.cell? ⟨b5, 3, none⟩ = some (.slice (some ⟨bv, ov, none⟩) 3 q5.vc) ∧ w'.cell? ⟨bv, ov, none⟩ = some (.slice a0 2 c0) ∧ w'.cell? ⟨bs, os + 6, none⟩ = some (.int .i64 1) ∧ w'.cell? ⟨bs, os + 6 + 1, none⟩ = some (.int .i64 2) ∧ w'.cell? ⟨bs, os + 6 + 2, none⟩ = some (.int .i64 1) ∧ Hid (Below V.heap.size V w')) := fun w' hb => ⟨ext_cell hb k0, ext_cell hb k1, ext_cell hb k2, ext_cell hb k3, ext_cell hb m3, ext_cell hb v0, ext_cell hb s0, ext_cell hb s1, ext_cell hb s2, hb⟩
              go_upto_region 8 with fail
              go_region_held3 (fun w' => w'.cell? ⟨b1, 0, none⟩ = some (.slice q.sa q.sn q.sc) ∧ w'.cell? ⟨b1, 1, none⟩ = some (.slice q.ra q.rn q.rc) ∧ w'.cell? ⟨b1, 2, none⟩ = some (.slice q.wa q.wn q.tc) ∧ w'.cell? ⟨b1, 3, none⟩ = some (.slice q.va q.vn q.vc) ∧ w'.cell? ⟨b5, 3, none⟩ = some (.slice (some ⟨bv, ov, none⟩) 3 q5.vc) ∧ w'.cell? ⟨bv, ov, none⟩ = some (.slice a0 2 c0) ∧ w'.cell? ⟨bs, os + 6, none⟩ = some (.int .i64 1) ∧ w'.cell? ⟨bs, os + 6 + 1, none⟩ = some (.int .i64 2) ∧ w'.cell? ⟨bs, os + 6 + 2, none⟩ = some (.int .i64 1) ∧ Hid (Below V.heap.size V w')) ((refine KS.out _ ?_; go_split_ands; repeat (first | assumption | exact Below.refl _ _ | exact Hid.out (by assumption) | refine grow_drew ?_ | refine grow_alloc ?_ _ | refine grow_trans ?_ (by assumption))))
                (first
                  | (go_at_call 56; refine (three_th _).mono ?_; rintro e wa ⟨lwa, awa, rfl, hlwa, htwa, hbwa⟩; have hzwa := size_le hbwa)
                  | (go_at_call_of 22 (Value.slice none 0 0); refine (check_q (m := 2) (S := SNil) (q := qNil) (hlwa.out.below ?_) (staQ_nil _)).mono ?_; (go_split_ands; repeat (first | exact Below.refl _ _ | exact grow_drew (Below.refl _ _))); rintro e wb ⟨rfl, hbwb⟩; have hzwb := size_le hbwb; rw [htwa.out.s0])
                  | (go_at_call 22; refine (check_q (m := 2) (S := STC) (q := q) (hlwa.out.below ?_) (hqq6.out.below ?_)).mono ?_; (go_split_ands; repeat (first | exact Below.refl _ _ | exact grow_drew (Below.refl _ _))); (go_split_ands; first | exact Hid.out (by assumption) | (repeat (first | assumption | exact Below.refl _ _ | exact Hid.out (by assumption) | refine grow_drew ?_ | refine grow_alloc ?_ _ | refine grow_trans ?_ (by assumption)))); rintro e wb ⟨rfl, hbwb⟩; have hzwb := size_le hbwb; rw [htwa.out.st])
                  | (go_at_call 37; refine (sameInts_any [0, 1] [0, 1] a0 _ c0 2 _ (by decide) (VI.out.below ?_) (ints_two _ _ _ _ (by first | rfl | simp))).mono ?_; (go_split_ands; repeat (first | assumption | exact Below.refl _ _ | exact Hid.out (by assumption) | refine grow_drew ?_ | refine grow_alloc ?_ _ | refine grow_trans ?_ (by assumption))); rintro e wd ⟨rfl, hbwd⟩; have hzwd := size_le hbwd))
              all_goals (
                go_split_ands
                go_wp2
                go_ret
                exact ⟨rfl, grow_trans B6.out (by first | exact Hid.out (by assumption) | (repeat (first | assumption | exact Below.refl _ _ | exact Hid.out (by assumption) | refine grow_drew ?_ | refine grow_alloc ?_ _ | refine grow_trans ?_ (by assumption))))⟩)
end Go.Proofs.YtebjkmknhpgemaaGreat
