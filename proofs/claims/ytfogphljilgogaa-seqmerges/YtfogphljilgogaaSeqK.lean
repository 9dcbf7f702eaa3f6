/-
  The batches of two sites of the statements' own (town).
  Conditions: none.
-/
import Derived.Test.YtfogphljilgogaaSeqD
import Derived.Test.YtfogphljilgogaaPlaceF
import Derived.WalkKit
import Derived.WalkSpells
import Derived.WalkLawsBesides
import Derived.ProofKit
import Derived.Deep.RegionHeld3
import Derived.BigQuiet
namespace Go.Proofs.Ytfogphljilgogaa
open Go.RowKit

abbrev yPay (n : Int) (ra ga sa : Option Addr) (rc gc sc : Nat) : TxA := ⟨ra, ga, sa, rc, gc, sc, [0, 1], [gPay n], [s1Pay n, s2Pay n]⟩

theorem isTxs_one' (w : World) (x : TxA) (n : Nat) (hn : n = w.heap.size) (hx : IsX w x) : IsTxs (w.alloc (.cells #[.slice x.ra x.rs.length x.rc, .slice x.ga x.gs.length x.gc, .slice x.sa x.ss.length x.sc] 26)) (some ⟨n, 0, none⟩) [x] := by
  subst hn
  intro i hi
  match i, hi with
  | 0, _ => exact ⟨w.heap.size, 0, rfl, by simp, by simp, by simp, by simp, hx.below (grow_alloc (Below.refl _ _) _)⟩
theorem isTxs_two' (w : World) (x y : TxA) (n : Nat) (hn : n = w.heap.size) (hx : IsX w x) (hy : IsX w y) : IsTxs (w.alloc (.cells #[.slice x.ra x.rs.length x.rc, .slice x.ga x.gs.length x.gc, .slice x.sa x.ss.length x.sc, .slice y.ra y.rs.length y.rc, .slice y.ga y.gs.length y.gc, .slice y.sa y.ss.length y.sc] 26)) (some ⟨n, 0, none⟩) [x, y] := by
  subst hn
  intro i hi
  match i, hi with
  | 0, _ => exact ⟨w.heap.size, 0, rfl, by simp, by simp, by simp, by simp, hx.below (grow_alloc (Below.refl _ _) _)⟩
  | 1, _ => exact ⟨w.heap.size, 0, rfl, by simp, by simp, by simp, by simp, hy.below (grow_alloc (Below.refl _ _) _)⟩
theorem isBs_one (w : World) (x : BtA) (n : Nat) (hn : n = w.heap.size) (hx : IsTxs w x.a x.l) (h1 : x.l.length ≤ maxLen) (h2 : x.l.length ≤ x.c) : IsBs (w.alloc (.cells #[.slice x.a x.l.length x.c] 37)) (some ⟨n, 0, none⟩) [x] := by
  subst hn
  intro i hi
  match i, hi with
  | 0, _ => exact ⟨w.heap.size, 0, rfl, by simp, by simp, hx.below (grow_alloc (Below.refl _ _) _), h1, h2⟩
theorem isBs_two (w : World) (x y : BtA) (n : Nat) (hn : n = w.heap.size) (hx : IsTxs w x.a x.l) (h1 : x.l.length ≤ maxLen) (h2 : x.l.length ≤ x.c) (hy : IsTxs w y.a y.l) (h3 : y.l.length ≤ maxLen) (h4 : y.l.length ≤ y.c) : IsBs (w.alloc (.cells #[.slice x.a x.l.length x.c, .slice y.a y.l.length y.c] 37)) (some ⟨n, 0, none⟩) [x, y] := by
  subst hn
  intro i hi
  match i, hi with
  | 0, _ => exact ⟨w.heap.size, 0, rfl, by simp, by simp, hx.below (grow_alloc (Below.refl _ _) _), h1, h2⟩
  | 1, _ => exact ⟨w.heap.size, 0, rfl, by simp, by simp, hy.below (grow_alloc (Below.refl _ _) _), h3, h4⟩
theorem isSt_two (w : World) (x y : StA) (n : Nat) (hn : n = w.heap.size) (hx : IsBs w x.a x.bs) (h1 : x.bs.length ≤ maxLen) (hy : IsBs w y.a y.bs) (h2 : y.bs.length ≤ maxLen) : IsSt (w.alloc (.cells #[.slice x.a x.bs.length x.c, .slice y.a y.bs.length y.c] 74)) (some ⟨n, 0, none⟩) [x, y] := by
  subst hn
  intro i hi
  match i, hi with
  | 0, _ => exact ⟨w.heap.size, 0, rfl, by simp, by simp, hx.below (grow_alloc (Below.refl _ _) _), h1⟩
  | 1, _ => exact ⟨w.heap.size, 0, rfl, by simp, by simp, hy.below (grow_alloc (Below.refl _ _) _), h2⟩

/-- The town. -/
def townS (A1 A3 A4 : Nat) (ra ga sa ra2 sa2 sa3 sa4 : Option Addr) (rc gc sc rc2 sc2 sc3 sc4 : Nat) : List StA :=
  [⟨some ⟨A3 + 1, 0, none⟩, 2, [⟨some ⟨A1, 0, none⟩, 1, [yPay 1 ra ga sa rc gc sc]⟩, ⟨some ⟨A3, 0, none⟩, 2, [xNote ra2 sa2 rc2 sc2, xMark 1 sa3 sc3]⟩]⟩, ⟨some ⟨A4 + 1, 0, none⟩, 1, [⟨some ⟨A4, 0, none⟩, 1, [xMark 2 sa4 sc4]⟩]⟩]

set_option maxRecDepth 100000 in
set_option maxHeartbeats 2000000 in
theorem town_any (w : World) : Calls Try.prog 65 #[] w fun e w' => ∃ a A1 A3 A4 ra ga sa ra2 sa2 sa3 sa4 rc gc sc rc2 sc2 sc3 sc4, e = .returned (.slice a 2 2) ∧ IsSt w' a (townS A1 A3 A4 ra ga sa ra2 sa2 sa3 sa4 rc gc sc rc2 sc2 sc3 sc4) ∧ Below w.heap.size w w' := by
  go_enter Try.func65, Try.ntmps65
  go_wp2_with fail
  refine (pay_any 1 _).mono ?_
  rintro e w1 ⟨ra, ga, sa, rc, gc, sc, rfl, ht1, hb1⟩
  have hx1 : Hid (IsX w1 (yPay 1 ra ga sa rc gc sc)) := ⟨ht1, some_of_ints ht1.r, some_of_gs ht1.g, some_of_ss ht1.s⟩
  clear ht1
  go_wp2_with fail
  have hl1 := isTxs_one' w1 (yPay 1 ra ga sa rc gc sc) _ rfl hx1.out
  have U1 := grow_alloc (Below.refl w1.heap.size w1) (.cells #[.slice ra 2 rc, .slice ga 1 gc, .slice sa 2 sc] 26)
  have HL1 : Hid (IsTxs (w1.alloc (.cells #[.slice ra 2 rc, .slice ga 1 gc, .slice sa 2 sc] 26)) (some ⟨w1.heap.size, 0, none⟩) [yPay 1 ra ga sa rc gc sc]) := hl1
  have B1 : Hid (Below w.heap.size w (w1.alloc (.cells #[.slice ra 2 rc, .slice ga 1 gc, .slice sa 2 sc] 26))) := grow_trans hb1 U1
  clear hl1 U1 hb1 hx1
  generalize (w1.alloc (.cells #[.slice ra 2 rc, .slice ga 1 gc, .slice sa 2 sc] 26)) = W1 at *
  generalize w1.heap.size = A1 at *
  refine (note_any _).mono ?_
  rintro e w2 ⟨ra2, sa2, rc2, sc2, rfl, ht2, hb2⟩
  have hx2 : Hid (IsX w2 (xNote ra2 sa2 rc2 sc2)) := ⟨ht2, some_of_ints ht2.r, fun _ => rfl, some_of_ss ht2.s⟩
  clear ht2
  go_wp2_with fail
  refine (mark_at 1 _).mono ?_
  rintro e w3 ⟨sa3, sc3, rfl, ht3, _, hb3⟩
  have hx3 : Hid (IsX w3 (xMark 1 sa3 sc3)) := ⟨ht3, fun _ => rfl, fun _ => rfl, some_of_ss ht3.s⟩
  clear ht3
  go_wp2_with fail
  have hl3 := isTxs_two' w3 (xNote ra2 sa2 rc2 sc2) (xMark 1 sa3 sc3) _ rfl (hx2.out.below hb3) hx3.out
  have HL3 : IsTxs (w3.alloc (.cells #[.slice ra2 1 rc2, .slice none 0 0, .slice sa2 1 sc2, .slice none 0 0, .slice none 0 0, .slice sa3 1 sc3] 26)) (some ⟨w3.heap.size, 0, none⟩) [xNote ra2 sa2 rc2 sc2, xMark 1 sa3 sc3] := hl3
  have U3 : Below w3.heap.size w3 (w3.alloc (.cells #[.slice ra2 1 rc2, .slice none 0 0, .slice sa2 1 sc2, .slice none 0 0, .slice none 0 0, .slice sa3 1 sc3] 26)) := grow_alloc (Below.refl _ _) _
  have hB3 := isBs_two (w3.alloc (.cells #[.slice ra2 1 rc2, .slice none 0 0, .slice sa2 1 sc2, .slice none 0 0, .slice none 0 0, .slice sa3 1 sc3] 26)) ⟨some ⟨A1, 0, none⟩, 1, [yPay 1 ra ga sa rc gc sc]⟩ ⟨some ⟨w3.heap.size, 0, none⟩, 2, [xNote ra2 sa2 rc2 sc2, xMark 1 sa3 sc3]⟩ _ rfl (HL1.out.below (grow_trans hb2 (grow_trans hb3 U3))) (by simp [maxLen]) (by simp) HL3 (by simp [maxLen]) (by simp)
  have HB3 : Hid (IsBs ((w3.alloc (.cells #[.slice ra2 1 rc2, .slice none 0 0, .slice sa2 1 sc2, .slice none 0 0, .slice none 0 0, .slice sa3 1 sc3] 26)).alloc (.cells #[.slice (some ⟨A1, 0, none⟩) 1 1, .slice (some ⟨w3.heap.size, 0, none⟩) 2 2] 37)) (some ⟨w3.heap.size + 1, 0, none⟩) [⟨some ⟨A1, 0, none⟩, 1, [yPay 1 ra ga sa rc gc sc]⟩, ⟨some ⟨w3.heap.size, 0, none⟩, 2, [xNote ra2 sa2 rc2 sc2, xMark 1 sa3 sc3]⟩]) := by
    rw [World.size_alloc] at hB3
    exact hB3
  have B3 : Hid (Below w.heap.size w ((w3.alloc (.cells #[.slice ra2 1 rc2, .slice none 0 0, .slice sa2 1 sc2, .slice none 0 0, .slice none 0 0, .slice sa3 1 sc3] 26)).alloc (.cells #[.slice (some ⟨A1, 0, none⟩) 1 1, .slice (some ⟨w3.heap.size, 0, none⟩) 2 2] 37))) := grow_alloc (grow_trans B1.out (grow_trans hb2 (grow_trans hb3 U3))) _
  clear hl3 HL3 U3 hB3 hb2 hb3 HL1 B1 hx2 hx3
  generalize hV : (w3.alloc (.cells #[.slice ra2 1 rc2, .slice none 0 0, .slice sa2 1 sc2, .slice none 0 0, .slice none 0 0, .slice sa3 1 sc3] 26)).alloc (.cells #[.slice (some ⟨A1, 0, none⟩) 1 1, .slice (some ⟨w3.heap.size, 0, none⟩) 2 2] 37) = V3 at *
  generalize w3.heap.size = A3 at *
  clear hV
  refine (mark_at 2 _).mono ?_
  rintro e w4 ⟨sa4, sc4, rfl, ht4, _, hb4⟩
  have hx4 : Hid (IsX w4 (xMark 2 sa4 sc4)) := ⟨ht4, fun _ => rfl, fun _ => rfl, some_of_ss ht4.s⟩
  clear ht4
  have hl4 : IsTxs (w4.alloc (.cells #[.slice none 0 0, .slice none 0 0, .slice sa4 1 sc4] 26)) (some ⟨w4.heap.size, 0, none⟩) [xMark 2 sa4 sc4] := isTxs_one' w4 (xMark 2 sa4 sc4) _ rfl hx4.out
  have hB4 : IsBs ((w4.alloc (.cells #[.slice none 0 0, .slice none 0 0, .slice sa4 1 sc4] 26)).alloc (.cells #[.slice (some ⟨w4.heap.size, 0, none⟩) 1 1] 37)) (some ⟨w4.heap.size + 1, 0, none⟩) [⟨some ⟨w4.heap.size, 0, none⟩, 1, [xMark 2 sa4 sc4]⟩] := by
    have h := isBs_one (w4.alloc (.cells #[.slice none 0 0, .slice none 0 0, .slice sa4 1 sc4] 26)) ⟨some ⟨w4.heap.size, 0, none⟩, 1, [xMark 2 sa4 sc4]⟩ _ rfl hl4 (by simp [maxLen]) (by simp)
    rw [World.size_alloc] at h
    exact h
  have hS4 : Hid (IsSt (((w4.alloc (.cells #[.slice none 0 0, .slice none 0 0, .slice sa4 1 sc4] 26)).alloc (.cells #[.slice (some ⟨w4.heap.size, 0, none⟩) 1 1] 37)).alloc (.cells #[.slice (some ⟨A3 + 1, 0, none⟩) 2 2, .slice (some ⟨w4.heap.size + 1, 0, none⟩) 1 1] 74)) (some ⟨w4.heap.size + 1 + 1, 0, none⟩) [⟨some ⟨A3 + 1, 0, none⟩, 2, [⟨some ⟨A1, 0, none⟩, 1, [yPay 1 ra ga sa rc gc sc]⟩, ⟨some ⟨A3, 0, none⟩, 2, [xNote ra2 sa2 rc2 sc2, xMark 1 sa3 sc3]⟩]⟩, ⟨some ⟨w4.heap.size + 1, 0, none⟩, 1, [⟨some ⟨w4.heap.size, 0, none⟩, 1, [xMark 2 sa4 sc4]⟩]⟩]) := by
    have h := isSt_two ((w4.alloc (.cells #[.slice none 0 0, .slice none 0 0, .slice sa4 1 sc4] 26)).alloc (.cells #[.slice (some ⟨w4.heap.size, 0, none⟩) 1 1] 37)) ⟨some ⟨A3 + 1, 0, none⟩, 2, [⟨some ⟨A1, 0, none⟩, 1, [yPay 1 ra ga sa rc gc sc]⟩, ⟨some ⟨A3, 0, none⟩, 2, [xNote ra2 sa2 rc2 sc2, xMark 1 sa3 sc3]⟩]⟩ ⟨some ⟨w4.heap.size + 1, 0, none⟩, 1, [⟨some ⟨w4.heap.size, 0, none⟩, 1, [xMark 2 sa4 sc4]⟩]⟩ _ rfl (HB3.out.below (grow_alloc (grow_alloc hb4 _) _)) (by simp [maxLen]) hB4 (by simp [maxLen])
    rw [World.size_alloc, World.size_alloc] at h
    exact h
  have B4 : Hid (Below w.heap.size w (((w4.alloc (.cells #[.slice none 0 0, .slice none 0 0, .slice sa4 1 sc4] 26)).alloc (.cells #[.slice (some ⟨w4.heap.size, 0, none⟩) 1 1] 37)).alloc (.cells #[.slice (some ⟨A3 + 1, 0, none⟩) 2 2, .slice (some ⟨w4.heap.size + 1, 0, none⟩) 1 1] 74))) := grow_alloc (grow_alloc (grow_alloc (grow_trans B3.out hb4) _) _) _
  clear hl4 hB4 hb4 HB3 B3 hx4
  go_wp2
  go_ret
  exact ⟨_, A1, A3, w4.heap.size, ra, ga, sa, ra2, sa2, sa3, sa4, rc, gc, sc, rc2, sc2, sc3, sc4, rfl, hS4.out, B4.out⟩
end Go.Proofs.Ytfogphljilgogaa
