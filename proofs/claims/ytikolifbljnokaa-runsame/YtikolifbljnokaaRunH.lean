/-
  RunSame's walk: whatever picks there are, the same comes as one after the other.
  Conditions: the arguments can be read.
-/
import Derived.Test.YtikolifbljnokaaRunF
import Derived.OwnWalk
import Derived.Laws.OwnMore
import Derived.WalkKit
import Derived.WalkSpells
import Derived.WalkLawsBesides
import Derived.ProofKit
import Derived.Deep.RegionHeld
import Derived.Deep.RegionHeld3
import Derived.BigQuiet
namespace Go.Proofs.Ytikolifbljnokaa
open Go.RowKit
variable (sa : Option Addr) (sc : Nat) (s : List Int) (la : Option Addr) (lc : Nat) (l : List TxA) (pa : Option Addr) (pc : Nat) (picks : List Int)

set_option maxRecDepth 100000 in
set_option maxHeartbeats 8000000 in
theorem runSame_walk (w : World) (hs : IsInts w sa s) (hl : IsTxs w la l) (hp : IsInts w pa picks) :
    Calls Try.prog 9 #[.slice sa s.length sc, .slice la l.length lc, .slice pa picks.length pc] w fun e w' => e = .returned (.bool true) ∧ Below w.heap.size w w' := by
  by_cases he : ckE s l picks = 0
  · obtain ⟨hpr, _, _⟩ := ckE_zero he
    obtain ⟨h8, hC, _⟩ := prE_zero hpr
    have hl8 := chkL_small hC
    have hser : serE s l = 0 := by
      unfold serE lenE
      rw [if_pos h8, hC]
      rfl
    have RN : Hid (Calls Try.prog 31 #[.slice sa s.length sc, .slice la l.length lc, .slice pa picks.length pc] w fun e w' => ∃ ea ec ra rc, e = .returned (.tuple #[.slice ea 8 ec, .slice ra l.length rc, .int .i64 0]) ∧ Hid (IsInts w' ea (serEnd s l)) ∧ Hid (IsRes w' ra (serRes s l)) ∧ Below w.heap.size w w') := run_ok sa sc s la lc l pa pc picks w hs hl hp he
    have hel : (serEnd s l).length = 8 := by rw [serEnd_len]; exact h8
    have hrl : (serRes s l).length = l.length := by rw [serRes_len]
    have SR : Hid (∀ w', Below w.heap.size w w' → Calls Try.prog 22 #[.slice sa s.length sc, .slice la l.length lc] w' fun e w'' => ∃ ea ec xa xc, e = .returned (.tuple #[.slice ea 8 ec, .slice xa l.length xc, .int .i64 0]) ∧ Hid (IsInts w'' ea (serEnd s l)) ∧ Hid (IsRes w'' xa (serRes s l)) ∧ Below w'.heap.size w' w'') := fun w' hb => by
      have h := serial_any sa la sc lc s l w' (hs.below hb) (hl.below hb)
      rw [show sEnd s l = serEnd s l from if_pos hser, show sRes s l = serRes s l from if_pos hser, hser, hel, hrl] at h
      exact h.mono fun e w'' ⟨ea, ec, xa, xc, h1, hso, h3⟩ => ⟨ea, ec, xa, xc, h1, hso.ints, hso.res, h3⟩
    have SS : Hid (∀ (a a' : Option Addr) (c c' : Nat) (w' : World), IsInts w' a (serEnd s l) → IsInts w' a' (serEnd s l) → Calls Try.prog 23 #[.slice a 8 c, .slice a' 8 c'] w' fun e w'' => e = .returned (.bool true) ∧ Below w'.heap.size w' w'') := fun a a' c c' => sameStore a a' c c' (serEnd s l) hel
    have SQ : Hid (∀ (a a' : Option Addr) (c c' : Nat) (w' : World), IsRes w' a (serRes s l) → IsRes w' a' (serRes s l) → Calls Try.prog 24 #[.slice a l.length c, .slice a' l.length c'] w' fun e w'' => e = .returned (.bool true) ∧ Below w'.heap.size w' w'') := fun a a' c c' w' q1 q2 => by
      have h := sameResults_eq (serRes s l) a a' c c' w' (by rw [hrl]; omega) (vals_few hser) q1 q2
      rw [hrl] at h
      exact h
    generalize serEnd s l = E at *
    generalize serRes s l = R at *
    clear hs hl hp he hpr h8 hC hl8 hser hel hrl
    go_enter Try.func9, Try.ntmps9
    go_wp2_with fail
    refine RN.out.mono ?_
    clear RN
    rintro e w1 ⟨ea, ec, ra, rc, rfl, hEa, hRa, b1⟩
    have B1 : Hid (Below w.heap.size w w1) := b1
    clear b1
    go_wp2_with fail
    refine (SR.out _ B1.out).mono ?_
    clear SR
    rintro e w2 ⟨fa, fc, qa, qc, rfl, hFa, hQa, b2⟩
    have hE2 : Hid (IsInts w2 ea E) := hEa.out.below b2
    have hR2 : Hid (IsRes w2 ra R) := hRa.out.below b2
    have B2 : Hid (Below w.heap.size w w2) := grow_trans B1.out b2
    clear b2 hEa hRa B1
    go_wp2_with fail
    refine (runBegun_any _).mono ?_
    rintro e w3 ⟨rfl, b3⟩
    have hE3 : Hid (IsInts w3 ea E) := hE2.out.below b3
    have hR3 : Hid (IsRes w3 ra R) := hR2.out.below b3
    have hF3 : Hid (IsInts w3 fa E) := hFa.out.below b3
    have hQ3 : Hid (IsRes w3 qa R) := hQa.out.below b3
    have B3 : Hid (Below w.heap.size w w3) := grow_trans B2.out b3
    clear b3 hE2 hR2 hFa hQa B2
    go_wp2_with fail
    refine (SS.out _ _ _ _ _ hE3.out hF3.out).mono ?_
    clear SS
    rintro e w4 ⟨rfl, b4⟩
    have hR4 : Hid (IsRes w4 ra R) := hR3.out.below b4
    have hQ4 : Hid (IsRes w4 qa R) := hQ3.out.below b4
    have B4 : Hid (Below w.heap.size w w4) := grow_trans B3.out b4
    clear b4 hE3 hF3 hR3 hQ3 B3
    go_wp2_with fail
    refine (SQ.out _ _ _ _ _ hR4.out hQ4.out).mono ?_
    clear SQ
    rintro e w5 ⟨rfl, b5⟩
    have B5 : Hid (Below w.heap.size w w5) := grow_trans B4.out b5
    clear b5 hR4 hQ4 B4
    go_wp2
    go_ret
    exact ⟨rfl, B5.out⟩
  · have hb : (ckE s l picks != 0) = true := by simpa using he
    have RN : Hid (Calls Try.prog 31 #[.slice sa s.length sc, .slice la l.length lc, .slice pa picks.length pc] w fun e w' => e = .returned (.tuple #[.slice none 0 0, .slice none 0 0, .int .i64 (ckE s l picks)]) ∧ Below w.heap.size w w') := run_bad sa sc s la lc l pa pc picks w hl hp he
    generalize ckE s l picks = se at *
    clear hs hl hp he
    go_enter Try.func9, Try.ntmps9
    go_wp2_with fail
    refine RN.out.mono ?_
    clear RN
    rintro e w1 ⟨rfl, b1⟩
    have B1 : Hid (Below w.heap.size w w1) := b1
    clear b1
    go_wp2_with fail
    refine (runBegun_any _).mono ?_
    rintro e v1 ⟨rfl, b8⟩
    have R : Hid (Below w.heap.size w v1) := grow_trans B1.out b8
    clear b8 B1
    go_wp2
    go_ret
    exact ⟨rfl, R.out⟩
end Go.Proofs.Ytikolifbljnokaa
