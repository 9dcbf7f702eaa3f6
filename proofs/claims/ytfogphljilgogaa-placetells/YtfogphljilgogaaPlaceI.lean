/-
  The law PlaceTells, walked, case by case.
  Conditions: those that each theorem states.
-/
import Derived.Test.YtfogphljilgogaaPlaceH
import Derived.WalkKit
import Derived.WalkSpells
import Derived.WalkLawsBesides
import Derived.ProofKit
import Derived.Deep.RegionHeld3
import Derived.BigQuiet
namespace Go.Proofs.Ytfogphljilgogaa
open Go.RowKit

variable (la : Option Addr) (lc : Nat) (l : List TxA)

set_option maxRecDepth 100000 in
set_option maxHeartbeats 4000000 in
theorem placeTells_plan (m key n x : Int) (hx : (x == 0) = false)
    (CS : Hid (∀ w, IsTxs w la l → Calls Try.prog 21 #[.agg #[.int .i64 m, .slice la l.length lc], .int .i64 key] w fun e w' => e = .returned (.tuple #[.int .i64 0, .int .i64 x]) ∧ Below w.heap.size w w'))
    (CP : Hid (∀ w, IsTxs w la l → Calls Try.prog 22 #[.agg #[.int .i64 m, .slice la l.length lc], .int .i64 n] w fun e w' => ∃ a c, e = .returned (.tuple #[.slice a 0 c, .int .i64 x]) ∧ IsBools w' a ([] : List Bool) ∧ Below w.heap.size w w'))
    (CA : Hid (∀ w, IsTxs w la l → Calls Try.prog 23 #[.agg #[.int .i64 m, .slice la l.length lc], .int .i64 n] w fun e w' => ∃ a c, e = .returned (.tuple #[.slice a 0 c, .int .i64 x]) ∧ IsBools w' a ([] : List Bool) ∧ Below w.heap.size w w'))
    (CK : Hid (∀ w, IsTxs w la l → Calls Try.prog 24 #[.agg #[.int .i64 m, .slice la l.length lc]] w fun e w' => e = .returned (.int .i64 x) ∧ Below w.heap.size w w'))
    (CC : Hid (∀ w, IsTxs w la l → Calls Try.prog 29 #[.agg #[.int .i64 m, .slice la l.length lc]] w fun e w' => e = .returned (.int .i64 x) ∧ Below w.heap.size w w'))
    (CU : Hid (∀ w, IsTxs w la l → Calls Try.prog 25 #[.agg #[.int .i64 m, .slice la l.length lc], .int .i64 n] w fun e w' => e = .returned (.int .i64 x) ∧ Below w.heap.size w w'))
    (w : World) (hl : IsTxs w la l) :
    Calls Try.prog 7 #[.agg #[.int .i64 m, .slice la l.length lc], .int .i64 key, .int .i64 n] w fun e w' => e = .returned (.bool true) ∧ Below w.heap.size w w' := by
  have SB : Hid (∀ (bs : List Bool) (w : World) (a a' : Option Addr) (c c' : Nat), bs.length ≤ 100 → IsBools w a bs → IsBools w a' bs → Calls Try.prog 30 #[.slice a bs.length c, .slice a' bs.length c'] w fun e w' => e = .returned (.bool true) ∧ Below w.heap.size w w') := fun bs w a a' c c' h1 h2 h3 => sameBools_eq bs a a' c c' w h1 h2 h3
  have HPL : Hid (([] : List Bool).length ≤ 100) := by show _ ≤ _; simp
  have HAL : Hid (([] : List Bool).length ≤ 100) := by show _ ≤ _; simp
  have hg : Below w.heap.size w (w.alloc (.cells #[.int .i64 m, .slice la l.length lc] 51)) := grow_alloc (Below.refl _ _) _
  have HL0 : Hid (IsTxs (w.alloc (.cells #[.int .i64 m, .slice la l.length lc] 51)) la l) := hl.below hg
  have q0 : (w.alloc (.cells #[.int .i64 m, .slice la l.length lc] 51)).cell? ⟨w.heap.size, 0, none⟩ = some (.int .i64 m) := by simp
  have q1 : (w.alloc (.cells #[.int .i64 m, .slice la l.length lc] 51)).cell? ⟨w.heap.size, 1, none⟩ = some (.slice la l.length lc) := by simp
  have B0 : Hid (Below w.heap.size w (w.alloc (.cells #[.int .i64 m, .slice la l.length lc] 51))) := hg
  clear hg hl
  go_enter Try.func7, Try.ntmps7
  go_wp2_with fail
  generalize w.alloc (.cells #[.int .i64 m, .slice la l.length lc] 51) = W0 at *
  refine (CS.out _ HL0.out).mono ?_
  rintro e w1 ⟨rfl, hb1⟩
  have q0 := ext_cell hb1 q0
  have q1 := ext_cell hb1 q1
  have HL1 : Hid (IsTxs w1 la l) := HL0.out.below hb1
  have B1 : Hid (Below w.heap.size w w1) := grow_trans B0.out hb1
  clear hb1 HL0 B0 CS
  go_wp2_with fail
  refine (CP.out _ HL1.out).mono ?_
  rintro e w2 ⟨pa, pc, rfl, hp, hb2⟩
  have q0 := ext_cell hb2 q0
  have q1 := ext_cell hb2 q1
  have HP2 : Hid (IsBools w2 pa ([] : List Bool)) := hp
  have HL2 : Hid (IsTxs w2 la l) := HL1.out.below hb2
  have B2 : Hid (Below w.heap.size w w2) := grow_trans B1.out hb2
  clear hb2 HL1 B1 CP hp
  go_wp2_with fail
  refine (CA.out _ HL2.out).mono ?_
  rintro e w3 ⟨ra, rc, rfl, hr, hb3⟩
  have q0 := ext_cell hb3 q0
  have q1 := ext_cell hb3 q1
  have HR3 : Hid (IsBools w3 ra ([] : List Bool)) := hr
  have HP3 : Hid (IsBools w3 pa ([] : List Bool)) := HP2.out.below hb3
  have HL3 : Hid (IsTxs w3 la l) := HL2.out.below hb3
  have B3 : Hid (Below w.heap.size w w3) := grow_trans B2.out hb3
  clear hb3 HL2 B2 CA hr HP2
  go_wp2_with fail
  refine (CK.out _ HL3.out).mono ?_
  rintro e w4 ⟨rfl, hb4⟩
  have q0 := ext_cell hb4 q0
  have q1 := ext_cell hb4 q1
  have HR4 : Hid (IsBools w4 ra ([] : List Bool)) := HR3.out.below hb4
  have HP4 : Hid (IsBools w4 pa ([] : List Bool)) := HP3.out.below hb4
  have HL4 : Hid (IsTxs w4 la l) := HL3.out.below hb4
  have B4 : Hid (Below w.heap.size w w4) := grow_trans B3.out hb4
  clear hb4 HL3 B3 CK HP3 HR3
  go_wp2_with fail
  refine (CU.out _ HL4.out).mono ?_
  rintro e w5 ⟨rfl, hb5⟩
  have q0 := ext_cell hb5 q0
  have q1 := ext_cell hb5 q1
  have HR8 : Hid (IsBools w5 ra ([] : List Bool)) := HR4.out.below hb5
  have HP8 : Hid (IsBools w5 pa ([] : List Bool)) := HP4.out.below hb5
  have HL8 : Hid (IsTxs w5 la l) := HL4.out.below hb5
  have B8 : Hid (Below w.heap.size w w5) := grow_trans B4.out hb5
  clear hb5 HL4 B4 CU HP4 HR4
  go_wp2_with fail
  refine (placeBegun_any _).mono ?_
  rintro e w9 ⟨rfl, hb9⟩
  have q0 := ext_cell hb9 q0
  have q1 := ext_cell hb9 q1
  have HL9 := HL8.out.below hb9
  have HP9 := HP8.out.below hb9
  have HR9 := HR8.out.below hb9
  have B9 : Hid (Below w.heap.size w w9) := grow_trans B8.out hb9
  clear hb9 HL8 HP8 HR8 B8
  go_wp2_with fail
  refine (CC.out _ HL9).mono ?_
  rintro e w10 ⟨rfl, hb10⟩
  have HP10 := HP9.below hb10
  have HR10 := HR9.below hb10
  have B10 : Hid (Below w.heap.size w w10) := grow_trans B9.out hb10
  clear hb10 HL9 HP9 HR9 B9 q0 q1
  go_wp2_with fail
  refine (SB.out ([] : List Bool) _ pa none pc 0 HPL.out HP10 (fun i hi => absurd hi (by simp))).mono ?_
  rintro e w11 ⟨rfl, hb11⟩
  have HR11 := HR10.below hb11
  have B11 : Hid (Below w.heap.size w w11) := grow_trans B10.out hb11
  clear hb11 HR10 B10 HP10
  go_wp2_with fail
  refine (SB.out ([] : List Bool) _ ra none rc 0 HAL.out HR11 (fun i hi => absurd hi (by simp))).mono ?_
  rintro e w12 ⟨rfl, hb12⟩
  have B12 : Below w.heap.size w w12 := grow_trans B11.out hb12
  clear hb12 HR11 B11
  go_wp2
  go_ret
  exact ⟨rfl, B12⟩

set_option maxRecDepth 100000 in
set_option maxHeartbeats 4000000 in
theorem placeTells_neg0 (m key n : Int) (hk : key < 0) (P A : List Bool) (hP : P.length ≤ 100) (hA : A.length ≤ 100)
    (CS : Hid (∀ w, IsTxs w la l → Calls Try.prog 21 #[.agg #[.int .i64 m, .slice la l.length lc], .int .i64 key] w fun e w' => e = .returned (.tuple #[.int .i64 0, .int .i64 3]) ∧ Below w.heap.size w w'))
    (CP : Hid (∀ w, IsTxs w la l → Calls Try.prog 22 #[.agg #[.int .i64 m, .slice la l.length lc], .int .i64 n] w fun e w' => ∃ a c, e = .returned (.tuple #[.slice a P.length c, .int .i64 0]) ∧ IsBools w' a P ∧ Below w.heap.size w w'))
    (CA : Hid (∀ w, IsTxs w la l → Calls Try.prog 23 #[.agg #[.int .i64 m, .slice la l.length lc], .int .i64 n] w fun e w' => ∃ a c, e = .returned (.tuple #[.slice a A.length c, .int .i64 0]) ∧ IsBools w' a A ∧ Below w.heap.size w w'))
    (CK : Hid (∀ w, IsTxs w la l → Calls Try.prog 24 #[.agg #[.int .i64 m, .slice la l.length lc]] w fun e w' => e = .returned (.int .i64 0) ∧ Below w.heap.size w w'))
    (CC : Hid (∀ w, IsTxs w la l → Calls Try.prog 29 #[.agg #[.int .i64 m, .slice la l.length lc]] w fun e w' => e = .returned (.int .i64 0) ∧ Below w.heap.size w w'))
    (CU : Hid (∀ w, IsTxs w la l → Calls Try.prog 25 #[.agg #[.int .i64 m, .slice la l.length lc], .int .i64 n] w fun e w' => e = .returned (.int .i64 0) ∧ Below w.heap.size w w'))
    (CX : Hid (∀ w, IsTxs w la l → Calls Try.prog 26 #[.agg #[.int .i64 m, .slice la l.length lc], .int .i64 n] w fun e w' => ∃ a c, e = .returned (.slice a P.length c) ∧ IsBools w' a P ∧ Below w.heap.size w w'))
    (CY : Hid (∀ w, IsTxs w la l → Calls Try.prog 27 #[.agg #[.int .i64 m, .slice la l.length lc], .int .i64 n] w fun e w' => ∃ a c, e = .returned (.slice a A.length c) ∧ IsBools w' a A ∧ Below w.heap.size w w'))
    (w : World) (hl : IsTxs w la l) :
    Calls Try.prog 7 #[.agg #[.int .i64 m, .slice la l.length lc], .int .i64 key, .int .i64 n] w fun e w' => e = .returned (.bool true) ∧ Below w.heap.size w w' := by
  have SB : Hid (∀ (bs : List Bool) (w : World) (a a' : Option Addr) (c c' : Nat), bs.length ≤ 100 → IsBools w a bs → IsBools w a' bs → Calls Try.prog 30 #[.slice a bs.length c, .slice a' bs.length c'] w fun e w' => e = .returned (.bool true) ∧ Below w.heap.size w w') := fun bs w a a' c c' h1 h2 h3 => sameBools_eq bs a a' c c' w h1 h2 h3
  have HPL : Hid (P.length ≤ 100) := hP
  have HAL : Hid (A.length ≤ 100) := hA
  clear hP hA
  have hg : Below w.heap.size w (w.alloc (.cells #[.int .i64 m, .slice la l.length lc] 51)) := grow_alloc (Below.refl _ _) _
  have HL0 : Hid (IsTxs (w.alloc (.cells #[.int .i64 m, .slice la l.length lc] 51)) la l) := hl.below hg
  have q0 : (w.alloc (.cells #[.int .i64 m, .slice la l.length lc] 51)).cell? ⟨w.heap.size, 0, none⟩ = some (.int .i64 m) := by simp
  have q1 : (w.alloc (.cells #[.int .i64 m, .slice la l.length lc] 51)).cell? ⟨w.heap.size, 1, none⟩ = some (.slice la l.length lc) := by simp
  have B0 : Hid (Below w.heap.size w (w.alloc (.cells #[.int .i64 m, .slice la l.length lc] 51))) := hg
  clear hg hl
  go_enter Try.func7, Try.ntmps7
  go_wp2_with fail
  generalize w.alloc (.cells #[.int .i64 m, .slice la l.length lc] 51) = W0 at *
  refine (CS.out _ HL0.out).mono ?_
  rintro e w1 ⟨rfl, hb1⟩
  have q0 := ext_cell hb1 q0
  have q1 := ext_cell hb1 q1
  have HL1 : Hid (IsTxs w1 la l) := HL0.out.below hb1
  have B1 : Hid (Below w.heap.size w w1) := grow_trans B0.out hb1
  clear hb1 HL0 B0 CS
  go_wp2_with fail
  refine (CP.out _ HL1.out).mono ?_
  rintro e w2 ⟨pa, pc, rfl, hp, hb2⟩
  have q0 := ext_cell hb2 q0
  have q1 := ext_cell hb2 q1
  have HP2 : Hid (IsBools w2 pa P) := hp
  have HL2 : Hid (IsTxs w2 la l) := HL1.out.below hb2
  have B2 : Hid (Below w.heap.size w w2) := grow_trans B1.out hb2
  clear hb2 HL1 B1 CP hp
  go_wp2_with fail
  refine (CA.out _ HL2.out).mono ?_
  rintro e w3 ⟨ra, rc, rfl, hr, hb3⟩
  have q0 := ext_cell hb3 q0
  have q1 := ext_cell hb3 q1
  have HR3 : Hid (IsBools w3 ra A) := hr
  have HP3 : Hid (IsBools w3 pa P) := HP2.out.below hb3
  have HL3 : Hid (IsTxs w3 la l) := HL2.out.below hb3
  have B3 : Hid (Below w.heap.size w w3) := grow_trans B2.out hb3
  clear hb3 HL2 B2 CA hr HP2
  go_wp2_with fail
  refine (CK.out _ HL3.out).mono ?_
  rintro e w4 ⟨rfl, hb4⟩
  have q0 := ext_cell hb4 q0
  have q1 := ext_cell hb4 q1
  have HR4 : Hid (IsBools w4 ra A) := HR3.out.below hb4
  have HP4 : Hid (IsBools w4 pa P) := HP3.out.below hb4
  have HL4 : Hid (IsTxs w4 la l) := HL3.out.below hb4
  have B4 : Hid (Below w.heap.size w w4) := grow_trans B3.out hb4
  clear hb4 HL3 B3 CK HP3 HR3
  go_wp2_with fail
  refine (CU.out _ HL4.out).mono ?_
  rintro e w5 ⟨rfl, hb5⟩
  have q0 := ext_cell hb5 q0
  have q1 := ext_cell hb5 q1
  have HR8 : Hid (IsBools w5 ra A) := HR4.out.below hb5
  have HP8 : Hid (IsBools w5 pa P) := HP4.out.below hb5
  have HL8 : Hid (IsTxs w5 la l) := HL4.out.below hb5
  have B8 : Hid (Below w.heap.size w w5) := grow_trans B4.out hb5
  clear hb5 HL4 B4 CU HP4 HR4
  have HK : Hid (∀ w', Below w5.heap.size w5 w' → w'.cell? ⟨w.heap.size, 0, none⟩ = some (.int .i64 m) ∧ w'.cell? ⟨w.heap.size, 1, none⟩ = some (.slice la l.length lc) ∧ Hid (Below w5.heap.size w5 w')) := fun w' h => ⟨ext_cell h q0, ext_cell h q1, h⟩
  go_wp2_with fail
  go_region_held3 (fun w' => w'.cell? ⟨w.heap.size, 0, none⟩ = some (.int .i64 m) ∧ w'.cell? ⟨w.heap.size, 1, none⟩ = some (.slice la l.length lc) ∧ Hid (Below w5.heap.size w5 w')) ((refine HK.out _ ?_; go_split_ands; repeat (first | assumption | exact Below.refl _ _ | exact Hid.out (by assumption) | refine grow_drew ?_ | refine grow_alloc ?_ _ | refine grow_trans ?_ (by assumption))))
    (first
      | (go_at_call 26; refine (CX.out _ ?_).mono ?_; (refine HL8.out.below ?_; go_split_ands; exact Hid.out (by assumption)); rintro e w6 ⟨pa6, pc6, rfl, hp6, hb6⟩)
      | (go_at_call 27; refine (CY.out _ ?_).mono ?_; (refine HL8.out.below ?_; go_split_ands; exact Hid.out (by assumption)); rintro e w7 ⟨ra7, rc7, rfl, hr7, hb7⟩))
  obtain ⟨q0, q1, hC⟩ := (‹_ ∧ _ ∧ Hid (Below w5.heap.size w5 w7)› : w7.cell? ⟨w.heap.size, 0, none⟩ = some (.int .i64 m) ∧ w7.cell? ⟨w.heap.size, 1, none⟩ = some (.slice la l.length lc) ∧ Hid (Below w5.heap.size w5 w7))
  have HX8 : Hid (IsBools w7 pa6 P) := hp6.below hb7
  have HY8 : Hid (IsBools w7 ra7 A) := hr7
  have HR8 : Hid (IsBools w7 ra A) := HR8.out.below hC.out
  have HP8 : Hid (IsBools w7 pa P) := HP8.out.below hC.out
  have HL8 : Hid (IsTxs w7 la l) := HL8.out.below hC.out
  have B8 : Hid (Below w.heap.size w w7) := grow_trans B8.out hC.out
  clear hp6 hr7 hb6 hb7 hC HK CX CY
  go_wp2_with fail
  refine (placeBegun_any _).mono ?_
  rintro e w9 ⟨rfl, hb9⟩
  have q0 := ext_cell hb9 q0
  have q1 := ext_cell hb9 q1
  have HL9 := HL8.out.below hb9
  have HP9 := HP8.out.below hb9
  have HR9 := HR8.out.below hb9
  have HX9 := HX8.out.below hb9
  have HY9 := HY8.out.below hb9
  have B9 : Hid (Below w.heap.size w w9) := grow_trans B8.out hb9
  clear hb9 HL8 HP8 HR8 B8
  go_wp2_with fail
  refine (CC.out _ HL9).mono ?_
  rintro e w10 ⟨rfl, hb10⟩
  have HP10 := HP9.below hb10
  have HR10 := HR9.below hb10
  have HX10 := HX9.below hb10
  have HY10 := HY9.below hb10
  have B10 : Hid (Below w.heap.size w w10) := grow_trans B9.out hb10
  clear hb10 HL9 HP9 HR9 B9 q0 q1
  go_wp2_with fail
  refine (SB.out P _ pa pa6 pc pc6 HPL.out HP10 HX10).mono ?_
  rintro e w11 ⟨rfl, hb11⟩
  have HR11 := HR10.below hb11
  have HY11 := HY10.below hb11
  have B11 : Hid (Below w.heap.size w w11) := grow_trans B10.out hb11
  clear hb11 HR10 B10 HP10
  go_wp2_with fail
  refine (SB.out A _ ra ra7 rc rc7 HAL.out HR11 HY11).mono ?_
  rintro e w12 ⟨rfl, hb12⟩
  have B12 : Below w.heap.size w w12 := grow_trans B11.out hb12
  clear hb12 HR11 B11
  go_wp2
  go_ret
  exact ⟨rfl, B12⟩

set_option maxRecDepth 100000 in
set_option maxHeartbeats 4000000 in
theorem placeTells_negu (m key n u : Int) (hu : (u == 0) = false) (hk : key < 0)
    (CS : Hid (∀ w, IsTxs w la l → Calls Try.prog 21 #[.agg #[.int .i64 m, .slice la l.length lc], .int .i64 key] w fun e w' => e = .returned (.tuple #[.int .i64 0, .int .i64 3]) ∧ Below w.heap.size w w'))
    (CP : Hid (∀ w, IsTxs w la l → Calls Try.prog 22 #[.agg #[.int .i64 m, .slice la l.length lc], .int .i64 n] w fun e w' => ∃ a c, e = .returned (.tuple #[.slice a 0 c, .int .i64 u]) ∧ IsBools w' a ([] : List Bool) ∧ Below w.heap.size w w'))
    (CA : Hid (∀ w, IsTxs w la l → Calls Try.prog 23 #[.agg #[.int .i64 m, .slice la l.length lc], .int .i64 n] w fun e w' => ∃ a c, e = .returned (.tuple #[.slice a 0 c, .int .i64 u]) ∧ IsBools w' a ([] : List Bool) ∧ Below w.heap.size w w'))
    (CK : Hid (∀ w, IsTxs w la l → Calls Try.prog 24 #[.agg #[.int .i64 m, .slice la l.length lc]] w fun e w' => e = .returned (.int .i64 0) ∧ Below w.heap.size w w'))
    (CC : Hid (∀ w, IsTxs w la l → Calls Try.prog 29 #[.agg #[.int .i64 m, .slice la l.length lc]] w fun e w' => e = .returned (.int .i64 0) ∧ Below w.heap.size w w'))
    (CU : Hid (∀ w, IsTxs w la l → Calls Try.prog 25 #[.agg #[.int .i64 m, .slice la l.length lc], .int .i64 n] w fun e w' => e = .returned (.int .i64 u) ∧ Below w.heap.size w w'))
    (w : World) (hl : IsTxs w la l) :
    Calls Try.prog 7 #[.agg #[.int .i64 m, .slice la l.length lc], .int .i64 key, .int .i64 n] w fun e w' => e = .returned (.bool true) ∧ Below w.heap.size w w' := by
  have SB : Hid (∀ (bs : List Bool) (w : World) (a a' : Option Addr) (c c' : Nat), bs.length ≤ 100 → IsBools w a bs → IsBools w a' bs → Calls Try.prog 30 #[.slice a bs.length c, .slice a' bs.length c'] w fun e w' => e = .returned (.bool true) ∧ Below w.heap.size w w') := fun bs w a a' c c' h1 h2 h3 => sameBools_eq bs a a' c c' w h1 h2 h3
  have HPL : Hid (([] : List Bool).length ≤ 100) := by show _ ≤ _; simp
  have HAL : Hid (([] : List Bool).length ≤ 100) := by show _ ≤ _; simp
  have hg : Below w.heap.size w (w.alloc (.cells #[.int .i64 m, .slice la l.length lc] 51)) := grow_alloc (Below.refl _ _) _
  have HL0 : Hid (IsTxs (w.alloc (.cells #[.int .i64 m, .slice la l.length lc] 51)) la l) := hl.below hg
  have q0 : (w.alloc (.cells #[.int .i64 m, .slice la l.length lc] 51)).cell? ⟨w.heap.size, 0, none⟩ = some (.int .i64 m) := by simp
  have q1 : (w.alloc (.cells #[.int .i64 m, .slice la l.length lc] 51)).cell? ⟨w.heap.size, 1, none⟩ = some (.slice la l.length lc) := by simp
  have B0 : Hid (Below w.heap.size w (w.alloc (.cells #[.int .i64 m, .slice la l.length lc] 51))) := hg
  clear hg hl
  go_enter Try.func7, Try.ntmps7
  go_wp2_with fail
  generalize w.alloc (.cells #[.int .i64 m, .slice la l.length lc] 51) = W0 at *
  refine (CS.out _ HL0.out).mono ?_
  rintro e w1 ⟨rfl, hb1⟩
  have q0 := ext_cell hb1 q0
  have q1 := ext_cell hb1 q1
  have HL1 : Hid (IsTxs w1 la l) := HL0.out.below hb1
  have B1 : Hid (Below w.heap.size w w1) := grow_trans B0.out hb1
  clear hb1 HL0 B0 CS
  go_wp2_with fail
  refine (CP.out _ HL1.out).mono ?_
  rintro e w2 ⟨pa, pc, rfl, hp, hb2⟩
  have q0 := ext_cell hb2 q0
  have q1 := ext_cell hb2 q1
  have HP2 : Hid (IsBools w2 pa ([] : List Bool)) := hp
  have HL2 : Hid (IsTxs w2 la l) := HL1.out.below hb2
  have B2 : Hid (Below w.heap.size w w2) := grow_trans B1.out hb2
  clear hb2 HL1 B1 CP hp
  go_wp2_with fail
  refine (CA.out _ HL2.out).mono ?_
  rintro e w3 ⟨ra, rc, rfl, hr, hb3⟩
  have q0 := ext_cell hb3 q0
  have q1 := ext_cell hb3 q1
  have HR3 : Hid (IsBools w3 ra ([] : List Bool)) := hr
  have HP3 : Hid (IsBools w3 pa ([] : List Bool)) := HP2.out.below hb3
  have HL3 : Hid (IsTxs w3 la l) := HL2.out.below hb3
  have B3 : Hid (Below w.heap.size w w3) := grow_trans B2.out hb3
  clear hb3 HL2 B2 CA hr HP2
  go_wp2_with fail
  refine (CK.out _ HL3.out).mono ?_
  rintro e w4 ⟨rfl, hb4⟩
  have q0 := ext_cell hb4 q0
  have q1 := ext_cell hb4 q1
  have HR4 : Hid (IsBools w4 ra ([] : List Bool)) := HR3.out.below hb4
  have HP4 : Hid (IsBools w4 pa ([] : List Bool)) := HP3.out.below hb4
  have HL4 : Hid (IsTxs w4 la l) := HL3.out.below hb4
  have B4 : Hid (Below w.heap.size w w4) := grow_trans B3.out hb4
  clear hb4 HL3 B3 CK HP3 HR3
  go_wp2_with fail
  refine (CU.out _ HL4.out).mono ?_
  rintro e w5 ⟨rfl, hb5⟩
  have q0 := ext_cell hb5 q0
  have q1 := ext_cell hb5 q1
  have HR8 : Hid (IsBools w5 ra ([] : List Bool)) := HR4.out.below hb5
  have HP8 : Hid (IsBools w5 pa ([] : List Bool)) := HP4.out.below hb5
  have HL8 : Hid (IsTxs w5 la l) := HL4.out.below hb5
  have B8 : Hid (Below w.heap.size w w5) := grow_trans B4.out hb5
  clear hb5 HL4 B4 CU HP4 HR4
  go_wp2_with fail
  refine (placeBegun_any _).mono ?_
  rintro e w9 ⟨rfl, hb9⟩
  have q0 := ext_cell hb9 q0
  have q1 := ext_cell hb9 q1
  have HL9 := HL8.out.below hb9
  have HP9 := HP8.out.below hb9
  have HR9 := HR8.out.below hb9
  have B9 : Hid (Below w.heap.size w w9) := grow_trans B8.out hb9
  clear hb9 HL8 HP8 HR8 B8
  go_wp2_with fail
  refine (CC.out _ HL9).mono ?_
  rintro e w10 ⟨rfl, hb10⟩
  have HP10 := HP9.below hb10
  have HR10 := HR9.below hb10
  have B10 : Hid (Below w.heap.size w w10) := grow_trans B9.out hb10
  clear hb10 HL9 HP9 HR9 B9 q0 q1
  go_wp2_with fail
  refine (SB.out ([] : List Bool) _ pa none pc 0 HPL.out HP10 (fun i hi => absurd hi (by simp))).mono ?_
  rintro e w11 ⟨rfl, hb11⟩
  have HR11 := HR10.below hb11
  have B11 : Hid (Below w.heap.size w w11) := grow_trans B10.out hb11
  clear hb11 HR10 B10 HP10
  go_wp2_with fail
  refine (SB.out ([] : List Bool) _ ra none rc 0 HAL.out HR11 (fun i hi => absurd hi (by simp))).mono ?_
  rintro e w12 ⟨rfl, hb12⟩
  have B12 : Below w.heap.size w w12 := grow_trans B11.out hb12
  clear hb12 HR11 B11
  go_wp2
  go_ret
  exact ⟨rfl, B12⟩

set_option maxRecDepth 100000 in
set_option maxHeartbeats 4000000 in
theorem placeTells_big0 (m key n : Int) (hk0 : ¬ key < 0) (hk : 8 ≤ key) (P A : List Bool) (hP : P.length ≤ 100) (hA : A.length ≤ 100)
    (CS : Hid (∀ w, IsTxs w la l → Calls Try.prog 21 #[.agg #[.int .i64 m, .slice la l.length lc], .int .i64 key] w fun e w' => e = .returned (.tuple #[.int .i64 0, .int .i64 3]) ∧ Below w.heap.size w w'))
    (CP : Hid (∀ w, IsTxs w la l → Calls Try.prog 22 #[.agg #[.int .i64 m, .slice la l.length lc], .int .i64 n] w fun e w' => ∃ a c, e = .returned (.tuple #[.slice a P.length c, .int .i64 0]) ∧ IsBools w' a P ∧ Below w.heap.size w w'))
    (CA : Hid (∀ w, IsTxs w la l → Calls Try.prog 23 #[.agg #[.int .i64 m, .slice la l.length lc], .int .i64 n] w fun e w' => ∃ a c, e = .returned (.tuple #[.slice a A.length c, .int .i64 0]) ∧ IsBools w' a A ∧ Below w.heap.size w w'))
    (CK : Hid (∀ w, IsTxs w la l → Calls Try.prog 24 #[.agg #[.int .i64 m, .slice la l.length lc]] w fun e w' => e = .returned (.int .i64 0) ∧ Below w.heap.size w w'))
    (CC : Hid (∀ w, IsTxs w la l → Calls Try.prog 29 #[.agg #[.int .i64 m, .slice la l.length lc]] w fun e w' => e = .returned (.int .i64 0) ∧ Below w.heap.size w w'))
    (CU : Hid (∀ w, IsTxs w la l → Calls Try.prog 25 #[.agg #[.int .i64 m, .slice la l.length lc], .int .i64 n] w fun e w' => e = .returned (.int .i64 0) ∧ Below w.heap.size w w'))
    (CX : Hid (∀ w, IsTxs w la l → Calls Try.prog 26 #[.agg #[.int .i64 m, .slice la l.length lc], .int .i64 n] w fun e w' => ∃ a c, e = .returned (.slice a P.length c) ∧ IsBools w' a P ∧ Below w.heap.size w w'))
    (CY : Hid (∀ w, IsTxs w la l → Calls Try.prog 27 #[.agg #[.int .i64 m, .slice la l.length lc], .int .i64 n] w fun e w' => ∃ a c, e = .returned (.slice a A.length c) ∧ IsBools w' a A ∧ Below w.heap.size w w'))
    (w : World) (hl : IsTxs w la l) :
    Calls Try.prog 7 #[.agg #[.int .i64 m, .slice la l.length lc], .int .i64 key, .int .i64 n] w fun e w' => e = .returned (.bool true) ∧ Below w.heap.size w w' := by
  have SB : Hid (∀ (bs : List Bool) (w : World) (a a' : Option Addr) (c c' : Nat), bs.length ≤ 100 → IsBools w a bs → IsBools w a' bs → Calls Try.prog 30 #[.slice a bs.length c, .slice a' bs.length c'] w fun e w' => e = .returned (.bool true) ∧ Below w.heap.size w w') := fun bs w a a' c c' h1 h2 h3 => sameBools_eq bs a a' c c' w h1 h2 h3
  have HPL : Hid (P.length ≤ 100) := hP
  have HAL : Hid (A.length ≤ 100) := hA
  clear hP hA
  have hg : Below w.heap.size w (w.alloc (.cells #[.int .i64 m, .slice la l.length lc] 51)) := grow_alloc (Below.refl _ _) _
  have HL0 : Hid (IsTxs (w.alloc (.cells #[.int .i64 m, .slice la l.length lc] 51)) la l) := hl.below hg
  have q0 : (w.alloc (.cells #[.int .i64 m, .slice la l.length lc] 51)).cell? ⟨w.heap.size, 0, none⟩ = some (.int .i64 m) := by simp
  have q1 : (w.alloc (.cells #[.int .i64 m, .slice la l.length lc] 51)).cell? ⟨w.heap.size, 1, none⟩ = some (.slice la l.length lc) := by simp
  have B0 : Hid (Below w.heap.size w (w.alloc (.cells #[.int .i64 m, .slice la l.length lc] 51))) := hg
  clear hg hl
  go_enter Try.func7, Try.ntmps7
  go_wp2_with fail
  generalize w.alloc (.cells #[.int .i64 m, .slice la l.length lc] 51) = W0 at *
  refine (CS.out _ HL0.out).mono ?_
  rintro e w1 ⟨rfl, hb1⟩
  have q0 := ext_cell hb1 q0
  have q1 := ext_cell hb1 q1
  have HL1 : Hid (IsTxs w1 la l) := HL0.out.below hb1
  have B1 : Hid (Below w.heap.size w w1) := grow_trans B0.out hb1
  clear hb1 HL0 B0 CS
  go_wp2_with fail
  refine (CP.out _ HL1.out).mono ?_
  rintro e w2 ⟨pa, pc, rfl, hp, hb2⟩
  have q0 := ext_cell hb2 q0
  have q1 := ext_cell hb2 q1
  have HP2 : Hid (IsBools w2 pa P) := hp
  have HL2 : Hid (IsTxs w2 la l) := HL1.out.below hb2
  have B2 : Hid (Below w.heap.size w w2) := grow_trans B1.out hb2
  clear hb2 HL1 B1 CP hp
  go_wp2_with fail
  refine (CA.out _ HL2.out).mono ?_
  rintro e w3 ⟨ra, rc, rfl, hr, hb3⟩
  have q0 := ext_cell hb3 q0
  have q1 := ext_cell hb3 q1
  have HR3 : Hid (IsBools w3 ra A) := hr
  have HP3 : Hid (IsBools w3 pa P) := HP2.out.below hb3
  have HL3 : Hid (IsTxs w3 la l) := HL2.out.below hb3
  have B3 : Hid (Below w.heap.size w w3) := grow_trans B2.out hb3
  clear hb3 HL2 B2 CA hr HP2
  go_wp2_with fail
  refine (CK.out _ HL3.out).mono ?_
  rintro e w4 ⟨rfl, hb4⟩
  have q0 := ext_cell hb4 q0
  have q1 := ext_cell hb4 q1
  have HR4 : Hid (IsBools w4 ra A) := HR3.out.below hb4
  have HP4 : Hid (IsBools w4 pa P) := HP3.out.below hb4
  have HL4 : Hid (IsTxs w4 la l) := HL3.out.below hb4
  have B4 : Hid (Below w.heap.size w w4) := grow_trans B3.out hb4
  clear hb4 HL3 B3 CK HP3 HR3
  go_wp2_with fail
  refine (CU.out _ HL4.out).mono ?_
  rintro e w5 ⟨rfl, hb5⟩
  have q0 := ext_cell hb5 q0
  have q1 := ext_cell hb5 q1
  have HR8 : Hid (IsBools w5 ra A) := HR4.out.below hb5
  have HP8 : Hid (IsBools w5 pa P) := HP4.out.below hb5
  have HL8 : Hid (IsTxs w5 la l) := HL4.out.below hb5
  have B8 : Hid (Below w.heap.size w w5) := grow_trans B4.out hb5
  clear hb5 HL4 B4 CU HP4 HR4
  have HK : Hid (∀ w', Below w5.heap.size w5 w' → w'.cell? ⟨w.heap.size, 0, none⟩ = some (.int .i64 m) ∧ w'.cell? ⟨w.heap.size, 1, none⟩ = some (.slice la l.length lc) ∧ Hid (Below w5.heap.size w5 w')) := fun w' h => ⟨ext_cell h q0, ext_cell h q1, h⟩
  go_wp2_with fail
  go_region_held3 (fun w' => w'.cell? ⟨w.heap.size, 0, none⟩ = some (.int .i64 m) ∧ w'.cell? ⟨w.heap.size, 1, none⟩ = some (.slice la l.length lc) ∧ Hid (Below w5.heap.size w5 w')) ((refine HK.out _ ?_; go_split_ands; repeat (first | assumption | exact Below.refl _ _ | exact Hid.out (by assumption) | refine grow_drew ?_ | refine grow_alloc ?_ _ | refine grow_trans ?_ (by assumption))))
    (first
      | (go_at_call 26; refine (CX.out _ ?_).mono ?_; (refine HL8.out.below ?_; go_split_ands; exact Hid.out (by assumption)); rintro e w6 ⟨pa6, pc6, rfl, hp6, hb6⟩)
      | (go_at_call 27; refine (CY.out _ ?_).mono ?_; (refine HL8.out.below ?_; go_split_ands; exact Hid.out (by assumption)); rintro e w7 ⟨ra7, rc7, rfl, hr7, hb7⟩))
  obtain ⟨q0, q1, hC⟩ := (‹_ ∧ _ ∧ Hid (Below w5.heap.size w5 w7)› : w7.cell? ⟨w.heap.size, 0, none⟩ = some (.int .i64 m) ∧ w7.cell? ⟨w.heap.size, 1, none⟩ = some (.slice la l.length lc) ∧ Hid (Below w5.heap.size w5 w7))
  have HX8 : Hid (IsBools w7 pa6 P) := hp6.below hb7
  have HY8 : Hid (IsBools w7 ra7 A) := hr7
  have HR8 : Hid (IsBools w7 ra A) := HR8.out.below hC.out
  have HP8 : Hid (IsBools w7 pa P) := HP8.out.below hC.out
  have HL8 : Hid (IsTxs w7 la l) := HL8.out.below hC.out
  have B8 : Hid (Below w.heap.size w w7) := grow_trans B8.out hC.out
  clear hp6 hr7 hb6 hb7 hC HK CX CY
  go_wp2_with fail
  refine (placeBegun_any _).mono ?_
  rintro e w9 ⟨rfl, hb9⟩
  have q0 := ext_cell hb9 q0
  have q1 := ext_cell hb9 q1
  have HL9 := HL8.out.below hb9
  have HP9 := HP8.out.below hb9
  have HR9 := HR8.out.below hb9
  have HX9 := HX8.out.below hb9
  have HY9 := HY8.out.below hb9
  have B9 : Hid (Below w.heap.size w w9) := grow_trans B8.out hb9
  clear hb9 HL8 HP8 HR8 B8
  go_wp2_with fail
  refine (CC.out _ HL9).mono ?_
  rintro e w10 ⟨rfl, hb10⟩
  have HP10 := HP9.below hb10
  have HR10 := HR9.below hb10
  have HX10 := HX9.below hb10
  have HY10 := HY9.below hb10
  have B10 : Hid (Below w.heap.size w w10) := grow_trans B9.out hb10
  clear hb10 HL9 HP9 HR9 B9 q0 q1
  go_wp2_with fail
  refine (SB.out P _ pa pa6 pc pc6 HPL.out HP10 HX10).mono ?_
  rintro e w11 ⟨rfl, hb11⟩
  have HR11 := HR10.below hb11
  have HY11 := HY10.below hb11
  have B11 : Hid (Below w.heap.size w w11) := grow_trans B10.out hb11
  clear hb11 HR10 B10 HP10
  go_wp2_with fail
  refine (SB.out A _ ra ra7 rc rc7 HAL.out HR11 HY11).mono ?_
  rintro e w12 ⟨rfl, hb12⟩
  have B12 : Below w.heap.size w w12 := grow_trans B11.out hb12
  clear hb12 HR11 B11
  go_wp2
  go_ret
  exact ⟨rfl, B12⟩

set_option maxRecDepth 100000 in
set_option maxHeartbeats 4000000 in
theorem placeTells_bigu (m key n u : Int) (hu : (u == 0) = false) (hk0 : ¬ key < 0) (hk : 8 ≤ key)
    (CS : Hid (∀ w, IsTxs w la l → Calls Try.prog 21 #[.agg #[.int .i64 m, .slice la l.length lc], .int .i64 key] w fun e w' => e = .returned (.tuple #[.int .i64 0, .int .i64 3]) ∧ Below w.heap.size w w'))
    (CP : Hid (∀ w, IsTxs w la l → Calls Try.prog 22 #[.agg #[.int .i64 m, .slice la l.length lc], .int .i64 n] w fun e w' => ∃ a c, e = .returned (.tuple #[.slice a 0 c, .int .i64 u]) ∧ IsBools w' a ([] : List Bool) ∧ Below w.heap.size w w'))
    (CA : Hid (∀ w, IsTxs w la l → Calls Try.prog 23 #[.agg #[.int .i64 m, .slice la l.length lc], .int .i64 n] w fun e w' => ∃ a c, e = .returned (.tuple #[.slice a 0 c, .int .i64 u]) ∧ IsBools w' a ([] : List Bool) ∧ Below w.heap.size w w'))
    (CK : Hid (∀ w, IsTxs w la l → Calls Try.prog 24 #[.agg #[.int .i64 m, .slice la l.length lc]] w fun e w' => e = .returned (.int .i64 0) ∧ Below w.heap.size w w'))
    (CC : Hid (∀ w, IsTxs w la l → Calls Try.prog 29 #[.agg #[.int .i64 m, .slice la l.length lc]] w fun e w' => e = .returned (.int .i64 0) ∧ Below w.heap.size w w'))
    (CU : Hid (∀ w, IsTxs w la l → Calls Try.prog 25 #[.agg #[.int .i64 m, .slice la l.length lc], .int .i64 n] w fun e w' => e = .returned (.int .i64 u) ∧ Below w.heap.size w w'))
    (w : World) (hl : IsTxs w la l) :
    Calls Try.prog 7 #[.agg #[.int .i64 m, .slice la l.length lc], .int .i64 key, .int .i64 n] w fun e w' => e = .returned (.bool true) ∧ Below w.heap.size w w' := by
  have SB : Hid (∀ (bs : List Bool) (w : World) (a a' : Option Addr) (c c' : Nat), bs.length ≤ 100 → IsBools w a bs → IsBools w a' bs → Calls Try.prog 30 #[.slice a bs.length c, .slice a' bs.length c'] w fun e w' => e = .returned (.bool true) ∧ Below w.heap.size w w') := fun bs w a a' c c' h1 h2 h3 => sameBools_eq bs a a' c c' w h1 h2 h3
  have HPL : Hid (([] : List Bool).length ≤ 100) := by show _ ≤ _; simp
  have HAL : Hid (([] : List Bool).length ≤ 100) := by show _ ≤ _; simp
  have hg : Below w.heap.size w (w.alloc (.cells #[.int .i64 m, .slice la l.length lc] 51)) := grow_alloc (Below.refl _ _) _
  have HL0 : Hid (IsTxs (w.alloc (.cells #[.int .i64 m, .slice la l.length lc] 51)) la l) := hl.below hg
  have q0 : (w.alloc (.cells #[.int .i64 m, .slice la l.length lc] 51)).cell? ⟨w.heap.size, 0, none⟩ = some (.int .i64 m) := by simp
  have q1 : (w.alloc (.cells #[.int .i64 m, .slice la l.length lc] 51)).cell? ⟨w.heap.size, 1, none⟩ = some (.slice la l.length lc) := by simp
  have B0 : Hid (Below w.heap.size w (w.alloc (.cells #[.int .i64 m, .slice la l.length lc] 51))) := hg
  clear hg hl
  go_enter Try.func7, Try.ntmps7
  go_wp2_with fail
  generalize w.alloc (.cells #[.int .i64 m, .slice la l.length lc] 51) = W0 at *
  refine (CS.out _ HL0.out).mono ?_
  rintro e w1 ⟨rfl, hb1⟩
  have q0 := ext_cell hb1 q0
  have q1 := ext_cell hb1 q1
  have HL1 : Hid (IsTxs w1 la l) := HL0.out.below hb1
  have B1 : Hid (Below w.heap.size w w1) := grow_trans B0.out hb1
  clear hb1 HL0 B0 CS
  go_wp2_with fail
  refine (CP.out _ HL1.out).mono ?_
  rintro e w2 ⟨pa, pc, rfl, hp, hb2⟩
  have q0 := ext_cell hb2 q0
  have q1 := ext_cell hb2 q1
  have HP2 : Hid (IsBools w2 pa ([] : List Bool)) := hp
  have HL2 : Hid (IsTxs w2 la l) := HL1.out.below hb2
  have B2 : Hid (Below w.heap.size w w2) := grow_trans B1.out hb2
  clear hb2 HL1 B1 CP hp
  go_wp2_with fail
  refine (CA.out _ HL2.out).mono ?_
  rintro e w3 ⟨ra, rc, rfl, hr, hb3⟩
  have q0 := ext_cell hb3 q0
  have q1 := ext_cell hb3 q1
  have HR3 : Hid (IsBools w3 ra ([] : List Bool)) := hr
  have HP3 : Hid (IsBools w3 pa ([] : List Bool)) := HP2.out.below hb3
  have HL3 : Hid (IsTxs w3 la l) := HL2.out.below hb3
  have B3 : Hid (Below w.heap.size w w3) := grow_trans B2.out hb3
  clear hb3 HL2 B2 CA hr HP2
  go_wp2_with fail
  refine (CK.out _ HL3.out).mono ?_
  rintro e w4 ⟨rfl, hb4⟩
  have q0 := ext_cell hb4 q0
  have q1 := ext_cell hb4 q1
  have HR4 : Hid (IsBools w4 ra ([] : List Bool)) := HR3.out.below hb4
  have HP4 : Hid (IsBools w4 pa ([] : List Bool)) := HP3.out.below hb4
  have HL4 : Hid (IsTxs w4 la l) := HL3.out.below hb4
  have B4 : Hid (Below w.heap.size w w4) := grow_trans B3.out hb4
  clear hb4 HL3 B3 CK HP3 HR3
  go_wp2_with fail
  refine (CU.out _ HL4.out).mono ?_
  rintro e w5 ⟨rfl, hb5⟩
  have q0 := ext_cell hb5 q0
  have q1 := ext_cell hb5 q1
  have HR8 : Hid (IsBools w5 ra ([] : List Bool)) := HR4.out.below hb5
  have HP8 : Hid (IsBools w5 pa ([] : List Bool)) := HP4.out.below hb5
  have HL8 : Hid (IsTxs w5 la l) := HL4.out.below hb5
  have B8 : Hid (Below w.heap.size w w5) := grow_trans B4.out hb5
  clear hb5 HL4 B4 CU HP4 HR4
  go_wp2_with fail
  refine (placeBegun_any _).mono ?_
  rintro e w9 ⟨rfl, hb9⟩
  have q0 := ext_cell hb9 q0
  have q1 := ext_cell hb9 q1
  have HL9 := HL8.out.below hb9
  have HP9 := HP8.out.below hb9
  have HR9 := HR8.out.below hb9
  have B9 : Hid (Below w.heap.size w w9) := grow_trans B8.out hb9
  clear hb9 HL8 HP8 HR8 B8
  go_wp2_with fail
  refine (CC.out _ HL9).mono ?_
  rintro e w10 ⟨rfl, hb10⟩
  have HP10 := HP9.below hb10
  have HR10 := HR9.below hb10
  have B10 : Hid (Below w.heap.size w w10) := grow_trans B9.out hb10
  clear hb10 HL9 HP9 HR9 B9 q0 q1
  go_wp2_with fail
  refine (SB.out ([] : List Bool) _ pa none pc 0 HPL.out HP10 (fun i hi => absurd hi (by simp))).mono ?_
  rintro e w11 ⟨rfl, hb11⟩
  have HR11 := HR10.below hb11
  have B11 : Hid (Below w.heap.size w w11) := grow_trans B10.out hb11
  clear hb11 HR10 B10 HP10
  go_wp2_with fail
  refine (SB.out ([] : List Bool) _ ra none rc 0 HAL.out HR11 (fun i hi => absurd hi (by simp))).mono ?_
  rintro e w12 ⟨rfl, hb12⟩
  have B12 : Below w.heap.size w w12 := grow_trans B11.out hb12
  clear hb12 HR11 B11
  go_wp2
  go_ret
  exact ⟨rfl, B12⟩

set_option maxRecDepth 100000 in
set_option maxHeartbeats 4000000 in
theorem placeTells_in0 (n : Int) (sh k : Nat) (hs : 0 < sh) (hs4 : sh ≤ 4) (hk8 : k < 8) (P A : List Bool) (hP : P.length ≤ 100) (hA : A.length ≤ 100)
    (CS : Hid (∀ w, IsTxs w la l → Calls Try.prog 21 #[.agg #[.int .i64 sh, .slice la l.length lc], .int .i64 k] w fun e w' => e = .returned (.tuple #[.int .i64 ((k : Int) % (sh : Int)), .int .i64 0]) ∧ Below w.heap.size w w'))
    (CP : Hid (∀ w, IsTxs w la l → Calls Try.prog 22 #[.agg #[.int .i64 sh, .slice la l.length lc], .int .i64 n] w fun e w' => ∃ a c, e = .returned (.tuple #[.slice a P.length c, .int .i64 0]) ∧ IsBools w' a P ∧ Below w.heap.size w w'))
    (CA : Hid (∀ w, IsTxs w la l → Calls Try.prog 23 #[.agg #[.int .i64 sh, .slice la l.length lc], .int .i64 n] w fun e w' => ∃ a c, e = .returned (.tuple #[.slice a A.length c, .int .i64 0]) ∧ IsBools w' a A ∧ Below w.heap.size w w'))
    (CK : Hid (∀ w, IsTxs w la l → Calls Try.prog 24 #[.agg #[.int .i64 sh, .slice la l.length lc]] w fun e w' => e = .returned (.int .i64 0) ∧ Below w.heap.size w w'))
    (CC : Hid (∀ w, IsTxs w la l → Calls Try.prog 29 #[.agg #[.int .i64 sh, .slice la l.length lc]] w fun e w' => e = .returned (.int .i64 0) ∧ Below w.heap.size w w'))
    (CU : Hid (∀ w, IsTxs w la l → Calls Try.prog 25 #[.agg #[.int .i64 sh, .slice la l.length lc], .int .i64 n] w fun e w' => e = .returned (.int .i64 0) ∧ Below w.heap.size w w'))
    (CX : Hid (∀ w, IsTxs w la l → Calls Try.prog 26 #[.agg #[.int .i64 sh, .slice la l.length lc], .int .i64 n] w fun e w' => ∃ a c, e = .returned (.slice a P.length c) ∧ IsBools w' a P ∧ Below w.heap.size w w'))
    (CY : Hid (∀ w, IsTxs w la l → Calls Try.prog 27 #[.agg #[.int .i64 sh, .slice la l.length lc], .int .i64 n] w fun e w' => ∃ a c, e = .returned (.slice a A.length c) ∧ IsBools w' a A ∧ Below w.heap.size w w'))
    (w : World) (hl : IsTxs w la l) :
    Calls Try.prog 7 #[.agg #[.int .i64 sh, .slice la l.length lc], .int .i64 k, .int .i64 n] w fun e w' => e = .returned (.bool true) ∧ Below w.heap.size w w' := by
  have SB : Hid (∀ (bs : List Bool) (w : World) (a a' : Option Addr) (c c' : Nat), bs.length ≤ 100 → IsBools w a bs → IsBools w a' bs → Calls Try.prog 30 #[.slice a bs.length c, .slice a' bs.length c'] w fun e w' => e = .returned (.bool true) ∧ Below w.heap.size w w') := fun bs w a a' c c' h1 h2 h3 => sameBools_eq bs a a' c c' w h1 h2 h3
  have k1 : ¬ (k : Int) < 0 := by omega
  have k2 : ¬ 8 ≤ (k : Int) := by omega
  have HPL : Hid (P.length ≤ 100) := hP
  have HAL : Hid (A.length ≤ 100) := hA
  clear hP hA
  have hg : Below w.heap.size w (w.alloc (.cells #[.int .i64 sh, .slice la l.length lc] 51)) := grow_alloc (Below.refl _ _) _
  have HL0 : Hid (IsTxs (w.alloc (.cells #[.int .i64 sh, .slice la l.length lc] 51)) la l) := hl.below hg
  have q0 : (w.alloc (.cells #[.int .i64 sh, .slice la l.length lc] 51)).cell? ⟨w.heap.size, 0, none⟩ = some (.int .i64 sh) := by simp
  have q1 : (w.alloc (.cells #[.int .i64 sh, .slice la l.length lc] 51)).cell? ⟨w.heap.size, 1, none⟩ = some (.slice la l.length lc) := by simp
  have B0 : Hid (Below w.heap.size w (w.alloc (.cells #[.int .i64 sh, .slice la l.length lc] 51))) := hg
  clear hg hl
  go_enter Try.func7, Try.ntmps7
  go_wp2_with fail
  generalize w.alloc (.cells #[.int .i64 sh, .slice la l.length lc] 51) = W0 at *
  refine (CS.out _ HL0.out).mono ?_
  rintro e w1 ⟨rfl, hb1⟩
  have q0 := ext_cell hb1 q0
  have q1 := ext_cell hb1 q1
  have HL1 : Hid (IsTxs w1 la l) := HL0.out.below hb1
  have B1 : Hid (Below w.heap.size w w1) := grow_trans B0.out hb1
  clear hb1 HL0 B0 CS
  go_wp2_with fail
  refine (CP.out _ HL1.out).mono ?_
  rintro e w2 ⟨pa, pc, rfl, hp, hb2⟩
  have q0 := ext_cell hb2 q0
  have q1 := ext_cell hb2 q1
  have HP2 : Hid (IsBools w2 pa P) := hp
  have HL2 : Hid (IsTxs w2 la l) := HL1.out.below hb2
  have B2 : Hid (Below w.heap.size w w2) := grow_trans B1.out hb2
  clear hb2 HL1 B1 CP hp
  go_wp2_with fail
  refine (CA.out _ HL2.out).mono ?_
  rintro e w3 ⟨ra, rc, rfl, hr, hb3⟩
  have q0 := ext_cell hb3 q0
  have q1 := ext_cell hb3 q1
  have HR3 : Hid (IsBools w3 ra A) := hr
  have HP3 : Hid (IsBools w3 pa P) := HP2.out.below hb3
  have HL3 : Hid (IsTxs w3 la l) := HL2.out.below hb3
  have B3 : Hid (Below w.heap.size w w3) := grow_trans B2.out hb3
  clear hb3 HL2 B2 CA hr HP2
  go_wp2_with fail
  refine (CK.out _ HL3.out).mono ?_
  rintro e w4 ⟨rfl, hb4⟩
  have q0 := ext_cell hb4 q0
  have q1 := ext_cell hb4 q1
  have HR4 : Hid (IsBools w4 ra A) := HR3.out.below hb4
  have HP4 : Hid (IsBools w4 pa P) := HP3.out.below hb4
  have HL4 : Hid (IsTxs w4 la l) := HL3.out.below hb4
  have B4 : Hid (Below w.heap.size w w4) := grow_trans B3.out hb4
  clear hb4 HL3 B3 CK HP3 HR3
  go_wp2_with fail
  refine (CU.out _ HL4.out).mono ?_
  rintro e w5 ⟨rfl, hb5⟩
  have q0 := ext_cell hb5 q0
  have q1 := ext_cell hb5 q1
  have HR8 : Hid (IsBools w5 ra A) := HR4.out.below hb5
  have HP8 : Hid (IsBools w5 pa P) := HP4.out.below hb5
  have HL8 : Hid (IsTxs w5 la l) := HL4.out.below hb5
  have B8 : Hid (Below w.heap.size w w5) := grow_trans B4.out hb5
  clear hb5 HL4 B4 CU HP4 HR4
  have HK : Hid (∀ w', Below w5.heap.size w5 w' → w'.cell? ⟨w.heap.size, 0, none⟩ = some (.int .i64 sh) ∧ w'.cell? ⟨w.heap.size, 1, none⟩ = some (.slice la l.length lc) ∧ Hid (Below w5.heap.size w5 w')) := fun w' h => ⟨ext_cell h q0, ext_cell h q1, h⟩
  go_wp2_with fail
  go_region_held3 (fun w' => w'.cell? ⟨w.heap.size, 0, none⟩ = some (.int .i64 sh) ∧ w'.cell? ⟨w.heap.size, 1, none⟩ = some (.slice la l.length lc) ∧ Hid (Below w5.heap.size w5 w')) ((refine HK.out _ ?_; go_split_ands; repeat (first | assumption | exact Below.refl _ _ | exact Hid.out (by assumption) | refine grow_drew ?_ | refine grow_alloc ?_ _ | refine grow_trans ?_ (by assumption))))
    (first
      | (go_at_call 26; refine (CX.out _ ?_).mono ?_; (refine HL8.out.below ?_; go_split_ands; exact Hid.out (by assumption)); rintro e w6 ⟨pa6, pc6, rfl, hp6, hb6⟩)
      | (go_at_call 27; refine (CY.out _ ?_).mono ?_; (refine HL8.out.below ?_; go_split_ands; exact Hid.out (by assumption)); rintro e w7 ⟨ra7, rc7, rfl, hr7, hb7⟩))
  obtain ⟨q0, q1, hC⟩ := (‹_ ∧ _ ∧ Hid (Below w5.heap.size w5 w7)› : w7.cell? ⟨w.heap.size, 0, none⟩ = some (.int .i64 sh) ∧ w7.cell? ⟨w.heap.size, 1, none⟩ = some (.slice la l.length lc) ∧ Hid (Below w5.heap.size w5 w7))
  have HX8 : Hid (IsBools w7 pa6 P) := hp6.below hb7
  have HY8 : Hid (IsBools w7 ra7 A) := hr7
  have HR8 : Hid (IsBools w7 ra A) := HR8.out.below hC.out
  have HP8 : Hid (IsBools w7 pa P) := HP8.out.below hC.out
  have HL8 : Hid (IsTxs w7 la l) := HL8.out.below hC.out
  have B8 : Hid (Below w.heap.size w w7) := grow_trans B8.out hC.out
  clear hp6 hr7 hb6 hb7 hC HK CX CY
  go_wp2_with fail
  refine (placeBegun_any _).mono ?_
  rintro e w9 ⟨rfl, hb9⟩
  have q0 := ext_cell hb9 q0
  have q1 := ext_cell hb9 q1
  have HL9 := HL8.out.below hb9
  have HP9 := HP8.out.below hb9
  have HR9 := HR8.out.below hb9
  have HX9 := HX8.out.below hb9
  have HY9 := HY8.out.below hb9
  have B9 : Hid (Below w.heap.size w w9) := grow_trans B8.out hb9
  clear hb9 HL8 HP8 HR8 B8
  go_wp2_with fail
  refine (CC.out _ HL9).mono ?_
  rintro e w10 ⟨rfl, hb10⟩
  have HP10 := HP9.below hb10
  have HR10 := HR9.below hb10
  have HX10 := HX9.below hb10
  have HY10 := HY9.below hb10
  have B10 : Hid (Below w.heap.size w w10) := grow_trans B9.out hb10
  clear hb10 HL9 HP9 HR9 B9 q0 q1
  go_wp2_with fail
  refine (SB.out P _ pa pa6 pc pc6 HPL.out HP10 HX10).mono ?_
  rintro e w11 ⟨rfl, hb11⟩
  have HR11 := HR10.below hb11
  have HY11 := HY10.below hb11
  have B11 : Hid (Below w.heap.size w w11) := grow_trans B10.out hb11
  clear hb11 HR10 B10 HP10
  go_wp2_with fail
  refine (SB.out A _ ra ra7 rc rc7 HAL.out HR11 HY11).mono ?_
  rintro e w12 ⟨rfl, hb12⟩
  have B12 : Below w.heap.size w w12 := grow_trans B11.out hb12
  clear hb12 HR11 B11
  go_wp2
  go_ret
  exact ⟨rfl, B12⟩

set_option maxRecDepth 100000 in
set_option maxHeartbeats 4000000 in
theorem placeTells_inu (n u : Int) (hu : (u == 0) = false) (sh k : Nat) (hs : 0 < sh) (hs4 : sh ≤ 4) (hk8 : k < 8)
    (CS : Hid (∀ w, IsTxs w la l → Calls Try.prog 21 #[.agg #[.int .i64 sh, .slice la l.length lc], .int .i64 k] w fun e w' => e = .returned (.tuple #[.int .i64 ((k : Int) % (sh : Int)), .int .i64 0]) ∧ Below w.heap.size w w'))
    (CP : Hid (∀ w, IsTxs w la l → Calls Try.prog 22 #[.agg #[.int .i64 sh, .slice la l.length lc], .int .i64 n] w fun e w' => ∃ a c, e = .returned (.tuple #[.slice a 0 c, .int .i64 u]) ∧ IsBools w' a ([] : List Bool) ∧ Below w.heap.size w w'))
    (CA : Hid (∀ w, IsTxs w la l → Calls Try.prog 23 #[.agg #[.int .i64 sh, .slice la l.length lc], .int .i64 n] w fun e w' => ∃ a c, e = .returned (.tuple #[.slice a 0 c, .int .i64 u]) ∧ IsBools w' a ([] : List Bool) ∧ Below w.heap.size w w'))
    (CK : Hid (∀ w, IsTxs w la l → Calls Try.prog 24 #[.agg #[.int .i64 sh, .slice la l.length lc]] w fun e w' => e = .returned (.int .i64 0) ∧ Below w.heap.size w w'))
    (CC : Hid (∀ w, IsTxs w la l → Calls Try.prog 29 #[.agg #[.int .i64 sh, .slice la l.length lc]] w fun e w' => e = .returned (.int .i64 0) ∧ Below w.heap.size w w'))
    (CU : Hid (∀ w, IsTxs w la l → Calls Try.prog 25 #[.agg #[.int .i64 sh, .slice la l.length lc], .int .i64 n] w fun e w' => e = .returned (.int .i64 u) ∧ Below w.heap.size w w'))
    (w : World) (hl : IsTxs w la l) :
    Calls Try.prog 7 #[.agg #[.int .i64 sh, .slice la l.length lc], .int .i64 k, .int .i64 n] w fun e w' => e = .returned (.bool true) ∧ Below w.heap.size w w' := by
  have SB : Hid (∀ (bs : List Bool) (w : World) (a a' : Option Addr) (c c' : Nat), bs.length ≤ 100 → IsBools w a bs → IsBools w a' bs → Calls Try.prog 30 #[.slice a bs.length c, .slice a' bs.length c'] w fun e w' => e = .returned (.bool true) ∧ Below w.heap.size w w') := fun bs w a a' c c' h1 h2 h3 => sameBools_eq bs a a' c c' w h1 h2 h3
  have k1 : ¬ (k : Int) < 0 := by omega
  have k2 : ¬ 8 ≤ (k : Int) := by omega
  have HPL : Hid (([] : List Bool).length ≤ 100) := by show _ ≤ _; simp
  have HAL : Hid (([] : List Bool).length ≤ 100) := by show _ ≤ _; simp
  have hg : Below w.heap.size w (w.alloc (.cells #[.int .i64 sh, .slice la l.length lc] 51)) := grow_alloc (Below.refl _ _) _
  have HL0 : Hid (IsTxs (w.alloc (.cells #[.int .i64 sh, .slice la l.length lc] 51)) la l) := hl.below hg
  have q0 : (w.alloc (.cells #[.int .i64 sh, .slice la l.length lc] 51)).cell? ⟨w.heap.size, 0, none⟩ = some (.int .i64 sh) := by simp
  have q1 : (w.alloc (.cells #[.int .i64 sh, .slice la l.length lc] 51)).cell? ⟨w.heap.size, 1, none⟩ = some (.slice la l.length lc) := by simp
  have B0 : Hid (Below w.heap.size w (w.alloc (.cells #[.int .i64 sh, .slice la l.length lc] 51))) := hg
  clear hg hl
  go_enter Try.func7, Try.ntmps7
  go_wp2_with fail
  generalize w.alloc (.cells #[.int .i64 sh, .slice la l.length lc] 51) = W0 at *
  refine (CS.out _ HL0.out).mono ?_
  rintro e w1 ⟨rfl, hb1⟩
  have q0 := ext_cell hb1 q0
  have q1 := ext_cell hb1 q1
  have HL1 : Hid (IsTxs w1 la l) := HL0.out.below hb1
  have B1 : Hid (Below w.heap.size w w1) := grow_trans B0.out hb1
  clear hb1 HL0 B0 CS
  go_wp2_with fail
  refine (CP.out _ HL1.out).mono ?_
  rintro e w2 ⟨pa, pc, rfl, hp, hb2⟩
  have q0 := ext_cell hb2 q0
  have q1 := ext_cell hb2 q1
  have HP2 : Hid (IsBools w2 pa ([] : List Bool)) := hp
  have HL2 : Hid (IsTxs w2 la l) := HL1.out.below hb2
  have B2 : Hid (Below w.heap.size w w2) := grow_trans B1.out hb2
  clear hb2 HL1 B1 CP hp
  go_wp2_with fail
  refine (CA.out _ HL2.out).mono ?_
  rintro e w3 ⟨ra, rc, rfl, hr, hb3⟩
  have q0 := ext_cell hb3 q0
  have q1 := ext_cell hb3 q1
  have HR3 : Hid (IsBools w3 ra ([] : List Bool)) := hr
  have HP3 : Hid (IsBools w3 pa ([] : List Bool)) := HP2.out.below hb3
  have HL3 : Hid (IsTxs w3 la l) := HL2.out.below hb3
  have B3 : Hid (Below w.heap.size w w3) := grow_trans B2.out hb3
  clear hb3 HL2 B2 CA hr HP2
  go_wp2_with fail
  refine (CK.out _ HL3.out).mono ?_
  rintro e w4 ⟨rfl, hb4⟩
  have q0 := ext_cell hb4 q0
  have q1 := ext_cell hb4 q1
  have HR4 : Hid (IsBools w4 ra ([] : List Bool)) := HR3.out.below hb4
  have HP4 : Hid (IsBools w4 pa ([] : List Bool)) := HP3.out.below hb4
  have HL4 : Hid (IsTxs w4 la l) := HL3.out.below hb4
  have B4 : Hid (Below w.heap.size w w4) := grow_trans B3.out hb4
  clear hb4 HL3 B3 CK HP3 HR3
  go_wp2_with fail
  refine (CU.out _ HL4.out).mono ?_
  rintro e w5 ⟨rfl, hb5⟩
  have q0 := ext_cell hb5 q0
  have q1 := ext_cell hb5 q1
  have HR8 : Hid (IsBools w5 ra ([] : List Bool)) := HR4.out.below hb5
  have HP8 : Hid (IsBools w5 pa ([] : List Bool)) := HP4.out.below hb5
  have HL8 : Hid (IsTxs w5 la l) := HL4.out.below hb5
  have B8 : Hid (Below w.heap.size w w5) := grow_trans B4.out hb5
  clear hb5 HL4 B4 CU HP4 HR4
  go_wp2_with fail
  refine (placeBegun_any _).mono ?_
  rintro e w9 ⟨rfl, hb9⟩
  have q0 := ext_cell hb9 q0
  have q1 := ext_cell hb9 q1
  have HL9 := HL8.out.below hb9
  have HP9 := HP8.out.below hb9
  have HR9 := HR8.out.below hb9
  have B9 : Hid (Below w.heap.size w w9) := grow_trans B8.out hb9
  clear hb9 HL8 HP8 HR8 B8
  go_wp2_with fail
  refine (CC.out _ HL9).mono ?_
  rintro e w10 ⟨rfl, hb10⟩
  have HP10 := HP9.below hb10
  have HR10 := HR9.below hb10
  have B10 : Hid (Below w.heap.size w w10) := grow_trans B9.out hb10
  clear hb10 HL9 HP9 HR9 B9 q0 q1
  go_wp2_with fail
  refine (SB.out ([] : List Bool) _ pa none pc 0 HPL.out HP10 (fun i hi => absurd hi (by simp))).mono ?_
  rintro e w11 ⟨rfl, hb11⟩
  have HR11 := HR10.below hb11
  have B11 : Hid (Below w.heap.size w w11) := grow_trans B10.out hb11
  clear hb11 HR10 B10 HP10
  go_wp2_with fail
  refine (SB.out ([] : List Bool) _ ra none rc 0 HAL.out HR11 (fun i hi => absurd hi (by simp))).mono ?_
  rintro e w12 ⟨rfl, hb12⟩
  have B12 : Below w.heap.size w w12 := grow_trans B11.out hb12
  clear hb12 HR11 B11
  go_wp2
  go_ret
  exact ⟨rfl, B12⟩
end Go.Proofs.Ytfogphljilgogaa
