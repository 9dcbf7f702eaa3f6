/-
  Audit: what must be in any case.
  Conditions: those that each theorem states.
-/
import Derived.Test.YtcgpkonfneofdaaAudF
import Derived.Test.YtcgpkonfneofdaaPlaceF
import Derived.WalkKit
import Derived.WalkSpells
import Derived.WalkLawsBesides
import Derived.Defers
import Derived.Recover
import Derived.ProofKit
import Derived.Deep.RegionHeld
import Derived.Deep.RegionHeld3
import Derived.Deep.RegionLaw
import Derived.Deep.DeepCutAuto
import Derived.Deep.QuietTactic
import Derived.BigQuiet
import Derived.Maps.AppendAt
import Derived.Lib.SliceRun
import Derived.Deep.AppendLies
namespace Go.Proofs.Ytcgpkonfneofdaa
open Go.RowKit

def five5 : List Int := [5, 1, 0, 0, 0, 0, 0, 0]
def th3 (ra ga sa ra2 sa2 sa3 : Option Addr) (rc gc sc rc2 sc2 sc3 : Nat) : List TxA := [xPay ra ga sa rc gc sc, xNote ra2 sa2 rc2 sc2, xMark 9 sa3 sc3]
section
variable (ra ga sa ra2 sa2 sa3 : Option Addr) (rc gc sc rc2 sc2 sc3 : Nat)
theorem ba_se : serE five5 (th3 ra ga sa ra2 sa2 sa3 rc gc sc rc2 sc2 sc3) = 0 := by kernel_rfl
theorem ba_en : sEnd five5 (th3 ra ga sa ra2 sa2 sa3 rc gc sc rc2 sc2 sc3) = [2, 4, 0, 0, 0, 4, 0, 9] := by kernel_rfl
theorem ba_rs : sRes five5 (th3 ra ga sa ra2 sa2 sa3 rc gc sc rc2 sc2 sc3) = [(true, [5, 1]), (true, [4]), (true, [])] := by kernel_rfl
theorem ba_a1 : audE five5 (th3 ra ga sa ra2 sa2 sa3 rc gc sc rc2 sc2 sc3) [2, 4, 0, 0, 0, 4, 0, 9] [(true, [5, 1]), (true, [4]), (true, [])] = 0 := by kernel_rfl
theorem ba_a2 : audV five5 (th3 ra ga sa ra2 sa2 sa3 rc gc sc rc2 sc2 sc3) [2, 4, 0, 0, 0, 4, 0, 9] [(true, [5, 1]), (true, [4]), (true, [])] = -1 := by kernel_rfl
theorem ba_b1 : audE five5 (th3 ra ga sa ra2 sa2 sa3 rc gc sc rc2 sc2 sc3) five5 [(true, [5, 1]), (true, [4]), (true, [])] = 0 := by kernel_rfl
theorem ba_b2 : audV five5 (th3 ra ga sa ra2 sa2 sa3 rc gc sc rc2 sc2 sc3) five5 [(true, [5, 1]), (true, [4]), (true, [])] = 3 := by kernel_rfl
theorem ba_c1 : rdE five5 (th3 ra ga sa ra2 sa2 sa3 rc gc sc rc2 sc2 sc3) 1 = 0 := by kernel_rfl
theorem ba_c2 : rdV five5 (th3 ra ga sa ra2 sa2 sa3 rc gc sc rc2 sc2 sc3) 1 = [0] := by kernel_rfl
theorem ba_d1 : rdE five5 (th3 ra ga sa ra2 sa2 sa3 rc gc sc rc2 sc2 sc3) 0 = 0 := by kernel_rfl
theorem ba_d2 : rdV five5 (th3 ra ga sa ra2 sa2 sa3 rc gc sc rc2 sc2 sc3) 0 = [-1, -1] := by kernel_rfl
theorem ba_j : audE five5 (th3 ra ga sa ra2 sa2 sa3 rc gc sc rc2 sc2 sc3) [] [(true, [5, 1]), (true, [4]), (true, [])] = 1 := by kernel_rfl
theorem ba_j2 : audV five5 (th3 ra ga sa ra2 sa2 sa3 rc gc sc rc2 sc2 sc3) [] [(true, [5, 1]), (true, [4]), (true, [])] = 0 := by kernel_rfl
end
/-- What is known of the three. -/
structure Au (l : List TxA) : Prop where
  n : l.length = 3
  se : serE five5 l = 0
  en : sEnd five5 l = [2, 4, 0, 0, 0, 4, 0, 9]
  rs : sRes five5 l = [(true, [5, 1]), (true, [4]), (true, [])]
  a1 : audE five5 l [2, 4, 0, 0, 0, 4, 0, 9] [(true, [5, 1]), (true, [4]), (true, [])] = 0
  a2 : audV five5 l [2, 4, 0, 0, 0, 4, 0, 9] [(true, [5, 1]), (true, [4]), (true, [])] = -1
  b1 : audE five5 l five5 [(true, [5, 1]), (true, [4]), (true, [])] = 0
  b2 : audV five5 l five5 [(true, [5, 1]), (true, [4]), (true, [])] = 3
  c1 : rdE five5 l 1 = 0
  c2 : rdV five5 l 1 = [0]
  d1 : rdE five5 l 0 = 0
  d2 : rdV five5 l 0 = [-1, -1]
  j1 : audE five5 l [] [(true, [5, 1]), (true, [4]), (true, [])] = 1
  j2 : audV five5 l [] [(true, [5, 1]), (true, [4]), (true, [])] = 0
theorem au_three (ra ga sa ra2 sa2 sa3 : Option Addr) (rc gc sc rc2 sc2 sc3 : Nat) : Au (th3 ra ga sa ra2 sa2 sa3 rc gc sc rc2 sc2 sc3) := ⟨rfl, ba_se _ _ _ _ _ _ _ _ _ _ _ _, ba_en _ _ _ _ _ _ _ _ _ _ _ _, ba_rs _ _ _ _ _ _ _ _ _ _ _ _, ba_a1 _ _ _ _ _ _ _ _ _ _ _ _, ba_a2 _ _ _ _ _ _ _ _ _ _ _ _, ba_b1 _ _ _ _ _ _ _ _ _ _ _ _, ba_b2 _ _ _ _ _ _ _ _ _ _ _ _, ba_c1 _ _ _ _ _ _ _ _ _ _ _ _, ba_c2 _ _ _ _ _ _ _ _ _ _ _ _, ba_d1 _ _ _ _ _ _ _ _ _ _ _ _, ba_d2 _ _ _ _ _ _ _ _ _ _ _ _, ba_j _ _ _ _ _ _ _ _ _ _ _ _, ba_j2 _ _ _ _ _ _ _ _ _ _ _ _⟩
set_option maxRecDepth 100000 in
theorem five_any (w : World) : Calls Try.prog 43 #[] w fun e w' => ∃ a, e = .returned (.slice a 8 8) ∧ Hid (IsInts w' a five5) ∧ Below w.heap.size w w' := by
  go_enter Try.func43, Try.ntmps43
  go_wp2
  go_ret
  refine ⟨_, rfl, fun i hi => ⟨w.heap.size, 0, rfl, by simp, ?_⟩, grow_alloc (Below.refl _ _) _⟩
  rw [Nat.zero_add]
  match i, hi with
  | 0, _ => exact at_new _ _ 3 _ 0 _ rfl rfl
  | 1, _ => exact at_new _ _ 3 _ 1 _ rfl rfl
  | 2, _ => exact at_new _ _ 3 _ 2 _ rfl rfl
  | 3, _ => exact at_new _ _ 3 _ 3 _ rfl rfl
  | 4, _ => exact at_new _ _ 3 _ 4 _ rfl rfl
  | 5, _ => exact at_new _ _ 3 _ 5 _ rfl rfl
  | 6, _ => exact at_new _ _ 3 _ 6 _ rfl rfl
  | 7, _ => exact at_new _ _ 3 _ 7 _ rfl rfl
section
variable {l : List TxA} {w : World} {a5 la ea xa : Option Addr}
theorem ba_ser (A : Au l) (hs : IsInts w a5 five5) (hl : IsTxs w la l) : Calls Try.prog 13 #[.slice a5 8 8, .slice la 3 3] w fun e w' => ∃ ea ec xa xc, e = .returned (.tuple #[.slice ea 8 ec, .slice xa 3 xc, .int .i64 0]) ∧ Hid (IsInts w' ea [2, 4, 0, 0, 0, 4, 0, 9]) ∧ Hid (IsRes w' xa [(true, [5, 1]), (true, [4]), (true, [])]) ∧ Below w.heap.size w w' := by
  have h := serial_any a5 la 8 3 five5 l w hs hl
  rw [A.se, A.en, A.rs, A.n] at h
  exact h.mono (by rintro e w' ⟨ea, ec, xa, xc, rfl, h, hb⟩; exact ⟨ea, ec, xa, xc, rfl, h.ints, h.res, hb⟩)
theorem ba_aud (A : Au l) {ec xc : Nat} {en : List Int} {v x : Int} (hv : audV five5 l en [(true, [5, 1]), (true, [4]), (true, [])] = v) (hx : audE five5 l en [(true, [5, 1]), (true, [4]), (true, [])] = x) (hs : IsInts w a5 five5) (hl : IsTxs w la l) (he : IsInts w ea en) (hr : IsRes w xa [(true, [5, 1]), (true, [4]), (true, [])]) : Calls Try.prog 7 #[.slice a5 8 8, .slice la 3 3, .slice ea en.length ec, .slice xa 3 xc] w fun e w' => e = .returned (.tuple #[.int .i64 v, .int .i64 x]) ∧ Below w.heap.size w w' := by
  have h := audit_any a5 la ea xa 8 3 ec xc five5 l en [(true, [5, 1]), (true, [4]), (true, [])] w hs hl he hr
  rw [hv, hx, A.n] at h
  exact h
theorem ba_rd (A : Au l) {n : Int} {V : List Int} (hv : rdV five5 l n = V) (hx : rdE five5 l n = 0) (hs : IsInts w a5 five5) (hl : IsTxs w la l) : Calls Try.prog 8 #[.slice a5 8 8, .slice la 3 3, .int .i64 n] w fun e w' => ∃ a c, e = .returned (.tuple #[.slice a V.length c, .int .i64 0]) ∧ Hid (IsInts w' a V) ∧ Below w.heap.size w w' := by
  have h := reads_any' a5 la 8 3 five5 l n w hs hl (Nat.le_of_eq A.n)
  rw [hv, hx, A.n] at h
  exact h
end
theorem ints_1 (w : World) (n : Nat) (x0 : Int) (hn : n = w.heap.size) : IsInts (w.alloc (.cells #[.int .i64 x0] 3)) (some ⟨n, 0, none⟩) [x0] := by
  subst hn
  intro i hi
  refine ⟨w.heap.size, 0, rfl, by simp, ?_⟩
  rw [Nat.zero_add]
  match i, hi with
  | 0, _ => exact at_new _ _ 3 _ 0 _ rfl rfl
theorem ints_2 (w : World) (n : Nat) (x0 x1 : Int) (hn : n = w.heap.size) : IsInts (w.alloc (.cells #[.int .i64 x0, .int .i64 x1] 3)) (some ⟨n, 0, none⟩) [x0, x1] := by
  subst hn
  intro i hi
  refine ⟨w.heap.size, 0, rfl, by simp, ?_⟩
  rw [Nat.zero_add]
  match i, hi with
  | 0, _ => exact at_new _ _ 3 _ 0 _ rfl rfl
  | 1, _ => exact at_new _ _ 3 _ 1 _ rfl rfl

set_option maxRecDepth 100000 in
set_option maxHeartbeats 4000000 in
theorem auditBegun_any (w : World) : Calls Try.prog 11 #[] w fun e w' => e = .returned (.bool true) ∧ Below w.heap.size w w' := by
  go_enter Try.func11, Try.ntmps11
  go_wp2_with fail
  refine (pay_at 3 _).mono ?_
  rintro e w1 ⟨ra, ga, sa, rc, gc, sc, rfl, ht1, hq1, hb1⟩
  have hx1 : Hid (IsX w1 (xPay ra ga sa rc gc sc)) := ⟨ht1, some_of_ints ht1.r, some_of_gs ht1.g, some_of_ss ht1.s⟩
  clear ht1 hq1
  go_wp2_with fail
  refine (note_at _).mono ?_
  rintro e w2 ⟨ra2, sa2, rc2, sc2, rfl, ht2, hq2, hb2⟩
  have hx2 : Hid (IsX w2 (xNote ra2 sa2 rc2 sc2)) := ⟨ht2, some_of_ints ht2.r, fun _ => rfl, some_of_ss ht2.s⟩
  clear ht2 hq2
  go_wp2_with fail
  refine (mark_at 9 _).mono ?_
  rintro e w3 ⟨sa3, sc3, rfl, ht3, hq3, hb3⟩
  have hx3 : Hid (IsX w3 (xMark 9 sa3 sc3)) := ⟨ht3, fun _ => rfl, fun _ => rfl, some_of_ss ht3.s⟩
  clear ht3 hq3
  have y1 : Hid (IsX w3 (xPay ra ga sa rc gc sc)) := hx1.out.below (grow_trans hb2 hb3)
  have y2 : Hid (IsX w3 (xNote ra2 sa2 rc2 sc2)) := hx2.out.below hb3
  have BB : Hid (Below w.heap.size w (w3.alloc (.cells #[.slice ra 2 rc, .slice ga 1 gc, .slice sa 2 sc, .slice ra2 1 rc2, .slice none 0 0, .slice sa2 1 sc2, .slice none 0 0, .slice none 0 0, .slice sa3 1 sc3] 38))) := grow_alloc (grow_trans hb1 (grow_trans hb2 hb3)) _
  have TT : Hid (IsTxs (w3.alloc (.cells #[.slice ra 2 rc, .slice ga 1 gc, .slice sa 2 sc, .slice ra2 1 rc2, .slice none 0 0, .slice sa2 1 sc2, .slice none 0 0, .slice none 0 0, .slice sa3 1 sc3] 38)) (some ⟨w3.heap.size, 0, none⟩) (th3 ra ga sa ra2 sa2 sa3 rc gc sc rc2 sc2 sc3)) := isTxs_three _ (xPay ra ga sa rc gc sc) (xNote ra2 sa2 rc2 sc2) (xMark 9 sa3 sc3) _ rfl y1.out y2.out hx3.out
  have AU : Hid (Au (th3 ra ga sa ra2 sa2 sa3 rc gc sc rc2 sc2 sc3)) := au_three ra ga sa ra2 sa2 sa3 rc gc sc rc2 sc2 sc3
  clear hx1 hx2 hx3 y1 y2 hb1 hb2 hb3
  go_upto_region 2 with fail
  generalize (w3.alloc (.cells #[.slice ra 2 rc, .slice ga 1 gc, .slice sa 2 sc, .slice ra2 1 rc2, .slice none 0 0, .slice sa2 1 sc2, .slice none 0 0, .slice none 0 0, .slice sa3 1 sc3] 38)) = W at *
  generalize (th3 ra ga sa ra2 sa2 sa3 rc gc sc rc2 sc2 sc3) = l at *
  generalize (some (⟨w3.heap.size, 0, none⟩ : Addr)) = la at *
  go_wp2_with fail
  refine (five_any _).mono ?_
  rintro e f0 ⟨a0, rfl, hi0, hf0⟩
  go_wp2_with fail
  refine (ba_ser AU.out hi0.out (TT.out.below hf0)).mono ?_
  rintro e w4 ⟨ea, ec, xa, xc, rfl, he, hr, hb4⟩
  have B4 : Hid (Below W.heap.size W w4) := grow_trans hf0 hb4
  clear hf0 hb4 hi0
  go_wp2_with fail
  refine (five_any _).mono ?_
  rintro e f1 ⟨a1, rfl, hi1, hf1⟩
  go_wp2_with fail
  refine (ba_aud (en := [2, 4, 0, 0, 0, 4, 0, 9]) AU.out AU.out.a2 AU.out.a1 hi1.out (TT.out.below (grow_trans B4.out hf1)) (he.out.below hf1) (hr.out.below hf1)).mono ?_
  rintro e w5 ⟨rfl, hb5⟩
  have C5 : Hid (Below w4.heap.size w4 w5) := grow_trans hf1 hb5
  clear hf1 hb5 hi1 he
  go_wp2_with fail
  refine (five_any _).mono ?_
  rintro e f2 ⟨a2, rfl, hi2, hf2⟩
  go_wp2_with fail
  refine (five_any _).mono ?_
  rintro e f3 ⟨a3, rfl, hi3, hf3⟩
  go_wp2_with fail
  refine (ba_aud (en := five5) AU.out AU.out.b2 AU.out.b1 (hi2.out.below hf3) (TT.out.below (grow_trans B4.out (grow_trans C5.out (grow_trans hf2 hf3)))) hi3.out (hr.out.below (grow_trans C5.out (grow_trans hf2 hf3)))).mono ?_
  rintro e w6 ⟨rfl, hb6⟩
  have C6 : Hid (Below w4.heap.size w4 w6) := grow_trans C5.out (grow_trans hf2 (grow_trans hf3 hb6))
  clear hf2 hf3 hb6 hi2 hi3 C5
  go_wp2_with fail
  refine (five_any _).mono ?_
  rintro e f4 ⟨a4, rfl, hi4, hf4⟩
  go_wp2_with fail
  refine (ba_rd AU.out AU.out.c2 AU.out.c1 hi4.out (TT.out.below (grow_trans B4.out (grow_trans C6.out hf4)))).mono ?_
  rintro e w7 ⟨ca, cc, rfl, hc, hb7⟩
  have C7 : Hid (Below w4.heap.size w4 w7) := grow_trans C6.out (grow_trans hf4 hb7)
  clear hf4 hb7 hi4 C6
  go_wp2_with fail
  refine (five_any _).mono ?_
  rintro e f5 ⟨a5, rfl, hi5, hf5⟩
  go_wp2_with fail
  refine (ba_rd AU.out AU.out.d2 AU.out.d1 hi5.out (TT.out.below (grow_trans B4.out (grow_trans C7.out hf5)))).mono ?_
  rintro e w8 ⟨da, dc, rfl, hd, hb8⟩
  have C8 : Hid (Below w4.heap.size w4 w8) := grow_trans C7.out (grow_trans hf5 hb8)
  have hc8 : Hid (IsInts w8 ca [0]) := hc.out.below (grow_trans hf5 hb8)
  clear hf5 hb8 hi5 C7 hc
  go_wp2_with fail
  refine (five_any _).mono ?_
  rintro e f6 ⟨a6, rfl, hi6, hf6⟩
  go_wp2_with fail
  refine (ba_aud (en := []) (ea := none) (ec := 0) AU.out AU.out.j2 AU.out.j1 hi6.out (TT.out.below (grow_trans B4.out (grow_trans C8.out hf6))) (fun i hi => absurd hi (by simp)) (hr.out.below (grow_trans C8.out hf6))).mono ?_
  rintro e w9 ⟨rfl, hb9⟩
  have D9 : Below w8.heap.size w8 w9 := grow_trans hf6 hb9
  have hc9 : Hid (IsInts w9 ca [0]) := hc8.out.below D9
  have hd9 : Hid (IsInts w9 da [-1, -1]) := hd.out.below D9
  have B9 : Hid (Below w.heap.size w w9) := grow_trans BB.out (grow_trans B4.out (grow_trans C8.out D9))
  clear hf6 hb9 hi6 D9 hc8 hd C8 hr B4 BB TT AU
  go_wp2_with fail
  refine (sameInts_any [0] [0] ca _ cc 1 _ (by decide) (hc9.out.below (grow_alloc (Below.refl _ _) _)) (ints_1 _ _ _ rfl)).mono ?_
  rintro e w10 ⟨rfl, hb10⟩
  have B10 : Hid (Below w.heap.size w w10) := grow_trans B9.out (grow_trans (grow_alloc (Below.refl _ _) _) hb10)
  have hd10 : Hid (IsInts w10 da [-1, -1]) := hd9.out.below (grow_trans (grow_alloc (Below.refl _ _) _) hb10)
  clear hb10 hc9 hd9 B9
  go_wp2_with fail
  refine (sameInts_any [-1, -1] [-1, -1] da _ dc 2 _ (by decide) (hd10.out.below (grow_alloc (Below.refl _ _) _)) (ints_2 _ _ _ _ rfl)).mono ?_
  rintro e w11 ⟨rfl, hb11⟩
  have B11 : Hid (Below w.heap.size w w11) := grow_trans B10.out (grow_trans (grow_alloc (Below.refl _ _) _) hb11)
  clear hb11
  go_wp2
  go_ret
  exact ⟨rfl, B11.out⟩
end Go.Proofs.Ytcgpkonfneofdaa
