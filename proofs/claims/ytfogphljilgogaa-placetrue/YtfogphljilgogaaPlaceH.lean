/-
  The first look of the statements on plans (placeBegun) finds what it must.
  Conditions: none.
-/
import Derived.Test.YtfogphljilgogaaPlaceG
import Derived.WalkKit
import Derived.WalkSpells
import Derived.WalkLawsBesides
import Derived.ProofKit
import Derived.Deep.RegionHeld3
import Derived.BigQuiet
namespace Go.Proofs.Ytfogphljilgogaa
open Go.RowKit

theorem isBools_two (w : World) (n : Nat) (a b : Bool) (hn : n = w.heap.size) : IsBools (w.alloc (.cells #[.bool a, .bool b] 4)) (some ⟨n, 0, none⟩) [a, b] := by
  subst hn
  intro i hi
  refine ⟨w.heap.size, 0, rfl, by simp, ?_⟩
  match i, hi with
  | 0, _ => simp
  | 1, _ => simp

set_option maxRecDepth 100000 in
set_option maxHeartbeats 4000000 in
theorem placeBegun_any (w : World) : Calls Try.prog 28 #[] w fun e w' => e = .returned (.bool true) ∧ Below w.heap.size w w' := by
  have CS : Hid (∀ w, Calls Try.prog 57 #[] w fun e w' => ∃ l a, e = .returned (.agg #[.int .i64 2, .slice a l.length 3]) ∧ IsTxs w' a l ∧ Below w.heap.size w w' ∧ Hid (planE 2 l = 0) ∧ Hid (shardE 2 l 5 = 0) ∧ Hid (shardV 2 l 5 = 1) ∧ Hid (pnE 2 l 0 = 0) ∧ Hid (partL 2 l 0 = [true, true]) ∧ Hid (pnE 2 l 2 = 0) ∧ Hid (activeL 2 l 2 = [false, true]) ∧ Hid (pnE 2 l 3 = 5) ∧ Hid (partL 2 l 3 = [])) := fun w => by
    refine (three_any w).mono ?_
    rintro e w' ⟨a, ra, ga, sa, rc, gc, sc, ra2, sa2, rc2, sc2, sa3, sc3, rfl, hl, hb⟩
    exact ⟨thr ra ga sa ra2 sa2 sa3 rc gc sc rc2 sc2 sc3, a, rfl, hl, hb, thrP _ _ _ _ _ _ _ _ _ _ _ _, thrS _ _ _ _ _ _ _ _ _ _ _ _, thrV _ _ _ _ _ _ _ _ _ _ _ _, thrE0 _ _ _ _ _ _ _ _ _ _ _ _, thrA _ _ _ _ _ _ _ _ _ _ _ _, thrE2 _ _ _ _ _ _ _ _ _ _ _ _, thrB _ _ _ _ _ _ _ _ _ _ _ _, thrE3 _ _ _ _ _ _ _ _ _ _ _ _, thrN _ _ _ _ _ _ _ _ _ _ _ _⟩
  go_enter Try.func28, Try.ntmps28
  go_wp2_with fail
  refine (CS.out _).mono ?_
  rintro e w1 ⟨l1, a1, rfl, hl1, hb1, _, e1, e2, _⟩
  have HL : Hid (IsTxs w1 a1 l1) := hl1
  clear hl1
  go_wp2_with fail
  refine (shard_any a1 3 l1 2 5 _ HL.out).mono ?_
  rintro e w2 ⟨rfl, hb2⟩
  rw [e1.out, e2.out]
  have B2 : Hid (Below w.heap.size w w2) := grow_trans hb1 hb2
  clear HL hb1 hb2 e1 e2
  go_wp2_with fail
  refine (CS.out _).mono ?_
  rintro e w3 ⟨l3, a3, rfl, hl3, hb3, _, _, _, e1, e2, _⟩
  have HL : Hid (IsTxs w3 a3 l3) := hl3
  clear hl3
  go_wp2_with fail
  refine (part_any a3 3 l3 2 0 _ HL.out).mono ?_
  rintro e w4 ⟨pa, pc, rfl, hp, hb4⟩
  rw [e2.out] at hp ⊢
  rw [e1.out]
  have HP : Hid (IsBools w4 pa [true, true]) := hp
  have B4 : Hid (Below w.heap.size w w4) := grow_trans B2.out (grow_trans hb3 hb4)
  clear HL hb3 hb4 e1 e2 hp B2
  go_wp2_with fail
  refine (CS.out _).mono ?_
  rintro e w5 ⟨l5, a5, rfl, hl5, hb5, _, _, _, _, _, e1, e2, _⟩
  have HL : Hid (IsTxs w5 a5 l5) := hl5
  clear hl5
  go_wp2_with fail
  refine (active_any a5 3 l5 2 2 _ HL.out).mono ?_
  rintro e w6 ⟨qa, qc, rfl, hq, hb6⟩
  rw [e2.out] at hq ⊢
  rw [e1.out]
  have HQ : Hid (IsBools w6 qa [false, true]) := hq
  have HP6 : Hid (IsBools w6 pa [true, true]) := HP.out.below (grow_trans hb5 hb6)
  have B6 : Hid (Below w.heap.size w w6) := grow_trans B4.out (grow_trans hb5 hb6)
  clear HL hb5 hb6 e1 e2 hq HP B4
  go_wp2_with fail
  refine (CS.out _).mono ?_
  rintro e w7 ⟨l7, a7, rfl, hl7, hb7, _, _, _, _, _, _, _, e1, e2⟩
  have HL : Hid (IsTxs w7 a7 l7) := hl7
  clear hl7
  go_wp2_with fail
  refine (part_any a7 3 l7 2 3 _ HL.out).mono ?_
  rintro e w8 ⟨ra, rc, rfl, hr, hb8⟩
  rw [e2.out]
  rw [e1.out]
  have HQ8 : Hid (IsBools w8 qa [false, true]) := HQ.out.below (grow_trans hb7 hb8)
  have HP8 : Hid (IsBools w8 pa [true, true]) := HP6.out.below (grow_trans hb7 hb8)
  have B8 : Hid (Below w.heap.size w w8) := grow_trans B6.out (grow_trans hb7 hb8)
  clear HL hb7 hb8 e1 e2 hr HP6 HQ B6
  go_wp2_with fail
  refine (CS.out _).mono ?_
  rintro e w9 ⟨l9, a9, rfl, hl9, hb9, e1, _⟩
  have HL : Hid (IsTxs w9 a9 l9) := hl9
  clear hl9
  go_wp2_with fail
  refine (placeCheck_any a9 3 l9 2 _ HL.out).mono ?_
  rintro e w10 ⟨rfl, hb10⟩
  rw [e1.out]
  have HQ10 : Hid (IsBools w10 qa [false, true]) := HQ8.out.below (grow_trans hb9 hb10)
  have HP10 : Hid (IsBools w10 pa [true, true]) := HP8.out.below (grow_trans hb9 hb10)
  have B10 : Hid (Below w.heap.size w w10) := grow_trans B8.out (grow_trans hb9 hb10)
  clear HL hb9 hb10 e1 HP8 HQ8 B8
  go_wp2_with fail
  refine (placeCheck_any none 0 [] 0 _ (fun i hi => absurd hi (by simp))).mono ?_
  rintro e w11 ⟨rfl, hb11⟩
  rw [show planE 0 [] = 3 from rfl]
  have HQ11 : Hid (IsBools w11 qa [false, true]) := HQ10.out.below hb11
  have HP11 : Hid (IsBools w11 pa [true, true]) := HP10.out.below hb11
  have B11 : Hid (Below w.heap.size w w11) := grow_trans B10.out hb11
  clear hb11 HP10 HQ10 B10
  go_wp2_with fail
  refine (sameBools_eq [true, true] pa _ pc 2 _ (by decide) (HP11.out.below (grow_alloc (Below.refl _ _) _)) (isBools_two _ _ _ _ rfl)).mono ?_
  rintro e w12 ⟨rfl, hb12⟩
  have HQ12 : Hid (IsBools w12 qa [false, true]) := HQ11.out.below (grow_trans (grow_alloc (Below.refl _ _) _) hb12)
  have B12 : Hid (Below w.heap.size w w12) := grow_trans B11.out (grow_trans (grow_alloc (Below.refl _ _) _) hb12)
  clear hb12 HP11 HQ11 B11
  go_wp2_with fail
  refine (sameBools_eq [false, true] qa _ qc 2 _ (by decide) (HQ12.out.below (grow_alloc (Below.refl _ _) _)) (isBools_two _ _ _ _ rfl)).mono ?_
  rintro e w13 ⟨rfl, hb13⟩
  have B13 : Hid (Below w.heap.size w w13) := grow_trans B12.out (grow_trans (grow_alloc (Below.refl _ _) _) hb13)
  clear hb13 HQ12 B12
  go_wp2
  go_ret
  exact ⟨rfl, B13.out⟩
end Go.Proofs.Ytfogphljilgogaa
