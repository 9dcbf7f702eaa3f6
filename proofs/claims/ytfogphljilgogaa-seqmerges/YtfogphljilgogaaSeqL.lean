/-
  The first look of the statements on sequences (seqBegun) finds what it must.
  Conditions: none.
-/
import Derived.Test.YtfogphljilgogaaSeqI
import Derived.Test.YtfogphljilgogaaSeqK
import Derived.WalkKit
import Derived.WalkSpells
import Derived.WalkLawsBesides
import Derived.ProofKit
import Derived.Deep.RegionHeld3
import Derived.BigQuiet
namespace Go.Proofs.Ytfogphljilgogaa
open Go.RowKit

theorem tnT0 : (decide (3 < 2) || (decide (6 < 2) || (decide (6 < 1) || false)) || decide (8 < wrap64 (wrap64 (wrap64 (0 + 1) + 2) + 1))) = false := by decide +kernel

section
variable (A1 A3 A4 : Nat) (ra ga sa ra2 sa2 sa3 sa4 : Option Addr) (rc gc sc rc2 sc2 sc3 sc4 : Nat)
theorem tnP : chkTx [0, 1] [gPay 1] [s1Pay 1, s2Pay 1] = 0 := by decide
theorem tnM1 : chkTx [] [] [sMark 1] = 0 := by decide
theorem tnM2 : chkTx [] [] [sMark 2] = 0 := by decide
theorem tnT : tooManyV (townS A1 A3 A4 ra ga sa ra2 sa2 sa3 sa4 rc gc sc rc2 sc2 sc3 sc4) = false := by
  exact tnT0
theorem tnE : chkS (townS A1 A3 A4 ra ga sa ra2 sa2 sa3 sa4 rc gc sc rc2 sc2 sc3 sc4) = 0 := by
  unfold chkS
  rw [tnT]
  show firstNZ [firstNZ [chkTx [0, 1] [gPay 1] [s1Pay 1, s2Pay 1]], firstNZ [chkTx [1] [] [sNote], chkTx [] [] [sMark 1]], firstNZ [chkTx [] [] [sMark 2]]] = 0
  rw [tnP, nE, tnM1, tnM2]
  rfl
theorem tnX : evs (townS A1 A3 A4 ra ga sa ra2 sa2 sa3 sa4 rc gc sc rc2 sc2 sc3 sc4) = [⟨0, 0, ⟨some ⟨A1, 0, none⟩, 1, [yPay 1 ra ga sa rc gc sc]⟩⟩, ⟨1, 0, ⟨some ⟨A4, 0, none⟩, 1, [xMark 2 sa4 sc4]⟩⟩, ⟨0, 1, ⟨some ⟨A3, 0, none⟩, 2, [xNote ra2 sa2 rc2 sc2, xMark 1 sa3 sc3]⟩⟩] := rfl
theorem tnG : mrg (townS A1 A3 A4 ra ga sa ra2 sa2 sa3 sa4 rc gc sc rc2 sc2 sc3 sc4) = [yPay 1 ra ga sa rc gc sc, xMark 2 sa4 sc4, xNote ra2 sa2 rc2 sc2, xMark 1 sa3 sc3] := by
  unfold mrg
  rw [if_pos (tnE A1 A3 A4 ra ga sa ra2 sa2 sa3 sa4 rc gc sc rc2 sc2 sc3 sc4), tnX]
  rfl
theorem tnO3 : frmO (townS A1 A3 A4 ra ga sa ra2 sa2 sa3 sa4 rc gc sc rc2 sc2 sc3 sc4) 3 = some (0, 1, 1) := by
  unfold frmO
  rw [if_pos (tnE A1 A3 A4 ra ga sa ra2 sa2 sa3 sa4 rc gc sc rc2 sc2 sc3 sc4)]
  unfold fromO
  rw [tnX]
  rfl
theorem tnO4 : fromO (townS A1 A3 A4 ra ga sa ra2 sa2 sa3 sa4 rc gc sc rc2 sc2 sc3 sc4) 4 = none := by
  unfold fromO
  rw [tnX]
  rfl
theorem tnR3 : frmR (townS A1 A3 A4 ra ga sa ra2 sa2 sa3 sa4 rc gc sc rc2 sc2 sc3 sc4) 3 = 0 := by
  unfold frmR
  rw [if_pos (tnE A1 A3 A4 ra ga sa ra2 sa2 sa3 sa4 rc gc sc rc2 sc2 sc3 sc4)]
  unfold fromO
  rw [tnX]
  rfl
theorem tnR4 : frmR (townS A1 A3 A4 ra ga sa ra2 sa2 sa3 sa4 rc gc sc rc2 sc2 sc3 sc4) 4 = 5 := by
  unfold frmR
  rw [if_pos (tnE A1 A3 A4 ra ga sa ra2 sa2 sa3 sa4 rc gc sc rc2 sc2 sc3 sc4), tnO4]
  rfl
end

/-- What the four say. -/
def fourC : List Core := [([0, 1], [gPay 1], [s1Pay 1, s2Pay 1]), ([], [], [sMark 2]), ([1], [], [sNote]), ([], [], [sMark 1])]

theorem isTxs_four (w : World) (x y z u : TxA) (n : Nat) (hn : n = w.heap.size) (hx : IsX w x) (hy : IsX w y) (hz : IsX w z) (hu : IsX w u) : IsTxs (w.alloc (.cells #[.slice x.ra x.rs.length x.rc, .slice x.ga x.gs.length x.gc, .slice x.sa x.ss.length x.sc, .slice y.ra y.rs.length y.rc, .slice y.ga y.gs.length y.gc, .slice y.sa y.ss.length y.sc, .slice z.ra z.rs.length z.rc, .slice z.ga z.gs.length z.gc, .slice z.sa z.ss.length z.sc, .slice u.ra u.rs.length u.rc, .slice u.ga u.gs.length u.gc, .slice u.sa u.ss.length u.sc] 26)) (some ⟨n, 0, none⟩) [x, y, z, u] := by
  subst hn
  intro i hi
  match i, hi with
  | 0, _ => exact ⟨w.heap.size, 0, rfl, by simp, by simp, by simp, by simp, hx.below (grow_alloc (Below.refl _ _) _)⟩
  | 1, _ => exact ⟨w.heap.size, 0, rfl, by simp, by simp, by simp, by simp, hy.below (grow_alloc (Below.refl _ _) _)⟩
  | 2, _ => exact ⟨w.heap.size, 0, rfl, by simp, by simp, by simp, by simp, hz.below (grow_alloc (Below.refl _ _) _)⟩
  | 3, _ => exact ⟨w.heap.size, 0, rfl, by simp, by simp, by simp, by simp, hu.below (grow_alloc (Below.refl _ _) _)⟩

theorem core_small {cl : List TxA} (h : cl.map TxA.core = fourC) : ∀ x ∈ cl, x.rs.length ≤ 100 ∧ x.gs.length ≤ 100 ∧ x.ss.length ≤ 100 := fun x hx => by
  have hm : x.core ∈ fourC := by rw [← h]; exact List.mem_map.2 ⟨x, hx, rfl⟩
  simp only [fourC, List.mem_cons, List.not_mem_nil, or_false, TxA.core, Prod.mk.injEq] at hm
  rcases hm with ⟨h1, h2, h3⟩ | ⟨h1, h2, h3⟩ | ⟨h1, h2, h3⟩ | ⟨h1, h2, h3⟩ <;> (rw [h1, h2, h3]; simp)

set_option maxRecDepth 100000 in
set_option maxHeartbeats 4000000 in
theorem seqBegun_any (w : World) : Calls Try.prog 36 #[] w fun e w' => e = .returned (.bool true) ∧ Below w.heap.size w w' := by
  have CT : Hid (∀ w, Calls Try.prog 65 #[] w fun e w' => ∃ a ss, e = .returned (.slice a 2 2) ∧ Hid (ss.length = 2) ∧ Hid (IsSt w' a ss) ∧ Hid (chkS ss = 0) ∧ Hid ((mrg ss).map TxA.core = fourC) ∧ Hid (frmO ss 3 = some (0, 1, 1)) ∧ Hid (frmR ss 3 = 0) ∧ Hid (frmR ss 4 = 5) ∧ Below w.heap.size w w') := fun w => by
    refine (town_any w).mono ?_
    rintro e w' ⟨a, A1, A3, A4, ra, ga, sa, ra2, sa2, sa3, sa4, rc, gc, sc, rc2, sc2, sc3, sc4, rfl, hS, hb⟩
    exact ⟨a, townS A1 A3 A4 ra ga sa ra2 sa2 sa3 sa4 rc gc sc rc2 sc2 sc3 sc4, rfl, (rfl : _ = _), hS, tnE _ _ _ _ _ _ _ _ _ _ _ _ _ _ _ _ _, by show _ = _; rw [tnG]; rfl, tnO3 _ _ _ _ _ _ _ _ _ _ _ _ _ _ _ _ _, tnR3 _ _ _ _ _ _ _ _ _ _ _ _ _ _ _ _ _, tnR4 _ _ _ _ _ _ _ _ _ _ _ _ _ _ _ _ _, hb⟩
  have CM : Hid (∀ (a : Option Addr) (ss : List StA) (w : World), ss.length = 2 → IsSt w a ss → chkS ss = 0 → (mrg ss).map TxA.core = fourC → Calls Try.prog 32 #[.slice a 2 2] w fun e w' => ∃ a c cl, e = .returned (.tuple #[.slice a 4 c, .int .i64 0]) ∧ Hid (IsTxs w' a cl) ∧ Hid (cl.map TxA.core = fourC) ∧ Below w.heap.size w w') := fun a ss w h2 hS hE hM => by
    have h := merge_any a 2 ss w hS (by rw [h2]; simp [maxLen])
    rw [hE, h2] at h
    refine h.mono ?_
    rintro e w' ⟨a, c, cl, rfl, h1, h3, _, _, h4⟩
    have h5 : cl.map TxA.core = fourC := h3.trans hM
    have hl : cl.length = 4 := by have := congrArg List.length h5; simpa [fourC] using this
    rw [hl]
    exact ⟨a, c, cl, rfl, h1, h5, h4⟩
  have CF : Hid (∀ (a : Option Addr) (ss : List StA) (k : Int) (w : World), ss.length = 2 → IsSt w a ss → k ≤ 100 → Calls Try.prog 33 #[.slice a 2 2, .int .i64 k] w fun e w' => e = .returned (.tuple #[.int .i64 (fromS (frmO ss k)), .int .i64 (fromE (frmO ss k)), .int .i64 (fromK (frmO ss k)), .int .i64 (frmR ss k)]) ∧ Below w.heap.size w w') := fun a ss k w h2 hS hk => by
    have h := from_any a 2 ss k w hS (by rw [h2]; simp [maxLen]) (by omega)
    rw [h2] at h
    exact h
  have SS : Hid (∀ (cl m : List TxA) (a a' : Option Addr) (c c' : Nat) (w : World), cl.map TxA.core = fourC → m.map TxA.core = fourC → IsTxs w a cl → IsTxs w a' m → Calls Try.prog 37 #[.slice a 4 c, .slice a' 4 c'] w fun e w' => e = .returned (.bool true) ∧ Below w.heap.size w w') := fun cl m a a' c c' w h1 h2 q1 q2 => by
    have hl : cl.length = 4 := by have := congrArg List.length h1; simpa [fourC] using this
    have hl2 : m.length = 4 := by have := congrArg List.length h2; simpa [fourC] using this
    have h := sameTxns_eq cl m a a' c c' w (h1.trans h2.symm) (by omega) (core_small h1) q1 q2
    rw [hl, hl2] at h
    exact h
  go_enter Try.func36, Try.ntmps36
  go_wp2_with fail
  refine (CT.out _).mono ?_
  rintro e w1 ⟨a1, ss1, rfl, l1, hS1, e1, m1, _, _, _, hb1⟩
  go_wp2_with fail
  refine (CM.out a1 ss1 _ l1.out hS1.out e1.out m1.out).mono ?_
  rintro e w2 ⟨la, lc, cl, rfl, hcl, hcc, hb2⟩
  have B2 : Hid (Below w.heap.size w w2) := grow_trans hb1 hb2
  clear hS1 e1 m1 l1 hb1 hb2
  go_wp2_with fail
  refine (CT.out _).mono ?_
  rintro e w3 ⟨a3, ss3, rfl, l3, hS3, _, _, o3, r3, _, hb3⟩
  go_wp2_with fail
  refine (CF.out a3 ss3 3 _ l3.out hS3.out (by omega)).mono ?_
  rintro e w4 ⟨rfl, hb4⟩
  rw [o3.out, r3.out]
  have hcl4 : Hid (IsTxs w4 la cl) := hcl.out.below (grow_trans hb3 hb4)
  have B4 : Hid (Below w.heap.size w w4) := grow_trans B2.out (grow_trans hb3 hb4)
  clear hS3 o3 r3 l3 hb3 hb4 hcl B2
  go_wp2_with fail
  refine (CT.out _).mono ?_
  rintro e w5 ⟨a5, ss5, rfl, l5, hS5, _, _, _, _, r5, hb5⟩
  go_wp2_with fail
  refine (CF.out a5 ss5 4 _ l5.out hS5.out (by omega)).mono ?_
  rintro e w6 ⟨rfl, hb6⟩
  rw [r5.out]
  have hcl6 : Hid (IsTxs w6 la cl) := hcl4.out.below (grow_trans hb5 hb6)
  have B6 : Hid (Below w.heap.size w w6) := grow_trans B4.out (grow_trans hb5 hb6)
  clear hS5 r5 l5 hb5 hb6 hcl4 B4
  generalize fromS (frmO ss5 4) = z1 at *
  generalize fromE (frmO ss5 4) = z2 at *
  generalize fromK (frmO ss5 4) = z3 at *
  go_wp2_with fail
  refine (pay_any 1 _).mono ?_
  rintro e w7 ⟨ra, ga, sa, rc, gc, sc, rfl, ht7, hb7⟩
  have hx7 : Hid (IsX w7 (yPay 1 ra ga sa rc gc sc)) := ⟨ht7, some_of_ints ht7.r, some_of_gs ht7.g, some_of_ss ht7.s⟩
  clear ht7
  go_wp2_with fail
  refine (mark_at 2 _).mono ?_
  rintro e w8 ⟨sa8, sc8, rfl, ht8, _, hb8⟩
  have hx8 : Hid (IsX w8 (xMark 2 sa8 sc8)) := ⟨ht8, fun _ => rfl, fun _ => rfl, some_of_ss ht8.s⟩
  clear ht8
  go_wp2_with fail
  refine (note_any _).mono ?_
  rintro e w9 ⟨ra9, sa9, rc9, sc9, rfl, ht9, hb9⟩
  have hx9 : Hid (IsX w9 (xNote ra9 sa9 rc9 sc9)) := ⟨ht9, some_of_ints ht9.r, fun _ => rfl, some_of_ss ht9.s⟩
  clear ht9
  go_wp2_with fail
  refine (mark_at 1 _).mono ?_
  rintro e w10 ⟨sa10, sc10, rfl, ht10, _, hb10⟩
  have hx10 : Hid (IsX w10 (xMark 1 sa10 sc10)) := ⟨ht10, fun _ => rfl, fun _ => rfl, some_of_ss ht10.s⟩
  clear ht10
  have h4 := isTxs_four w10 (yPay 1 ra ga sa rc gc sc) (xMark 2 sa8 sc8) (xNote ra9 sa9 rc9 sc9) (xMark 1 sa10 sc10) _ rfl (hx7.out.below (grow_trans hb8 (grow_trans hb9 hb10))) (hx8.out.below (grow_trans hb9 hb10)) (hx9.out.below hb10) hx10.out
  have H4 : Hid (IsTxs (w10.alloc (.cells #[.slice ra 2 rc, .slice ga 1 gc, .slice sa 2 sc, .slice none 0 0, .slice none 0 0, .slice sa8 1 sc8, .slice ra9 1 rc9, .slice none 0 0, .slice sa9 1 sc9, .slice none 0 0, .slice none 0 0, .slice sa10 1 sc10] 26)) (some ⟨w10.heap.size, 0, none⟩) [yPay 1 ra ga sa rc gc sc, xMark 2 sa8 sc8, xNote ra9 sa9 rc9 sc9, xMark 1 sa10 sc10]) := h4
  have U : Below w6.heap.size w6 (w10.alloc (.cells #[.slice ra 2 rc, .slice ga 1 gc, .slice sa 2 sc, .slice none 0 0, .slice none 0 0, .slice sa8 1 sc8, .slice ra9 1 rc9, .slice none 0 0, .slice sa9 1 sc9, .slice none 0 0, .slice none 0 0, .slice sa10 1 sc10] 26)) := grow_alloc (grow_trans hb7 (grow_trans hb8 (grow_trans hb9 hb10))) _
  have HU : Hid (Below w6.heap.size w6 (w10.alloc (.cells #[.slice ra 2 rc, .slice ga 1 gc, .slice sa 2 sc, .slice none 0 0, .slice none 0 0, .slice sa8 1 sc8, .slice ra9 1 rc9, .slice none 0 0, .slice sa9 1 sc9, .slice none 0 0, .slice none 0 0, .slice sa10 1 sc10] 26))) := U
  clear h4 U hb7 hb8 hb9 hb10 hx7 hx8 hx9 hx10
  go_wp2_with fail
  refine (SS.out cl [yPay 1 ra ga sa rc gc sc, xMark 2 sa8 sc8, xNote ra9 sa9 rc9 sc9, xMark 1 sa10 sc10] la _ lc 4 _ hcc.out rfl (hcl6.out.below HU.out) H4.out).mono ?_
  rintro e w11 ⟨rfl, hb11⟩
  have B11 : Below w.heap.size w w11 := grow_trans B6.out (grow_trans HU.out hb11)
  clear hb11 H4 HU B6 hcl6
  go_wp2
  go_ret
  exact ⟨rfl, B11⟩
end Go.Proofs.Ytfogphljilgogaa
