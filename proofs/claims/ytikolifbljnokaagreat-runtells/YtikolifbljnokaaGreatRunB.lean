/-
  run.Check: are these picks that may be, and all of them?
  Conditions: the arguments can be read.
-/
import Derived.Test.YtikolifbljnokaaGreatRunA
import Derived.OwnWalk
import Derived.Laws.OwnMore
import Derived.WalkKit
import Derived.WalkSpells
import Derived.WalkLawsBesides
import Derived.Defers
import Derived.Recover
import Derived.ProofKit
import Derived.Deep.RegionHeld
import Derived.Deep.RegionHeld3
import Derived.BigQuiet
import Derived.Deep.RegionLaw
import Derived.Deep.DeepCutAuto
namespace Go.Proofs.YtikolifbljnokaaGreat
open Go.RowKit

theorem madeR5 : (madeCells (Value.bool false).cells (5 * 1)).toList = (List.replicate 5 false).map Value.bool := by kernel_rfl
theorem madeR6 : (madeCells (Value.bool false).cells (6 * 1)).toList = (List.replicate 6 false).map Value.bool := by kernel_rfl
theorem madeR7 : (madeCells (Value.bool false).cells (7 * 1)).toList = (List.replicate 7 false).map Value.bool := by kernel_rfl
theorem madeR8 : (madeCells (Value.bool false).cells (8 * 1)).toList = (List.replicate 8 false).map Value.bool := by kernel_rfl
theorem made_boolsR (n : Nat) (h : n ≤ 8) : (madeCells (Value.bool false).cells (n * 1)).toList = (List.replicate n false).map Value.bool := by
  by_cases h4 : n ≤ 4
  · exact made_bools n h4
  · have e : n = 5 ∨ n = 6 ∨ n = 7 ∨ n = 8 := by omega
    rcases e with rfl | rfl | rfl | rfl
    · exact madeR5
    · exact madeR6
    · exact madeR7
    · exact madeR8

/-- Check's errors: ahead of all picks; then pick by pick; then of those that are left. -/
def lenR (s : List Int) : Int := if s.length = 8 then 0 else 1
def d0 (l : List TxA) : List Bool := List.replicate l.length false
def prE (s : List Int) (l : List TxA) (picks : List Int) : Int := firstNZ [lenR s, chkL l, mnE picks]
def ckE (s : List Int) (l : List TxA) (picks : List Int) : Int := if prE s l picks = 0 then (if pkE l (d0 l) picks = 0 then leftE (dnP (d0 l) picks) else pkE l (d0 l) picks) else prE s l picks
theorem pkE_app (l : List TxA) : ∀ (a b : List Int) (d : List Bool), pkE l d (a ++ b) = if pkE l d a = 0 then pkE l (dnP d a) b else pkE l d a
  | [], b, d => by
    show pkE l d b = if (0 : Int) = 0 then pkE l d b else 0
    rw [if_pos rfl]
  | q :: a, b, d => by
    rw [List.cons_append, pkE, pkE, pkE_app l a]
    by_cases h : pick1 l d q = 0
    · rw [if_pos h, if_pos h]; rfl
    · rw [if_neg h, if_neg h, if_neg h]
theorem pkE_at (l : List TxA) (d : List Bool) (picks : List Int) (k : Nat) (hk : k < picks.length) (h0 : pkE l d (picks.take k) = 0) :
    (¬ pick1 l (dnP d (picks.take k)) (picks.getD k 0) = 0 → pkE l d picks = pick1 l (dnP d (picks.take k)) (picks.getD k 0)) ∧
    (pick1 l (dnP d (picks.take k)) (picks.getD k 0) = 0 → pkE l d (picks.take (k + 1)) = 0 ∧ dnP d (picks.take (k + 1)) = (dnP d (picks.take k)).set (picks.getD k 0).toNat true) := by
  have e : picks.getD k 0 = picks[k] := by simp [List.getD, hk]
  constructor
  · intro h
    have hs : picks = picks.take k ++ picks[k] :: picks.drop (k + 1) := by
      conv => lhs; rw [← List.take_append_drop k picks, List.drop_eq_getElem_cons hk]
    rw [e] at h ⊢
    conv => lhs; rw [hs, pkE_app, if_pos h0, pkE, if_neg h]
  · intro h
    rw [List.take_succ_eq_append_getElem hk, pkE_snoc, if_pos h0, dnP_snoc, ← e]
    exact ⟨h, rfl⟩
theorem prE_zero {s : List Int} {l : List TxA} {picks : List Int} (h : prE s l picks = 0) : s.length = 8 ∧ chkL l = 0 ∧ picks.length ≤ 200 := by
  have hz := firstNZ_zero _ h
  have h1 : lenR s = 0 := by simpa using hz 0
  have h2 : chkL l = 0 := by simpa using hz 1
  have h3 : mnE picks = 0 := by simpa using hz 2
  refine ⟨?_, h2, ?_⟩
  · unfold lenR at h1
    split at h1
    · assumption
    · omega
  · unfold mnE at h3
    split at h3
    · omega
    · omega

variable (sa : Option Addr) (sc : Nat) (s : List Int) (la : Option Addr) (lc : Nat) (l : List TxA) (pa : Option Addr) (pc : Nat) (picks : List Int)

set_option maxRecDepth 100000 in
set_option maxHeartbeats 1000000 in
theorem rcheck1_pan (p q r : Nat) (w : World) (p0 : w.cell? ⟨p, 0, none⟩ = some (.slice sa s.length sc)) (q0 : w.cell? ⟨q, 0, none⟩ = some (.slice la l.length lc)) (r0 : w.cell? ⟨r, 0, none⟩ = some (.slice pa picks.length pc)) (hl : IsTxs w la l) (hE : ¬ prE s l picks = 0) :
    Calls Tryz.prog 21 #[.pointer (some ⟨p, 0, none⟩), .pointer (some ⟨q, 0, none⟩), .pointer (some ⟨r, 0, none⟩)] w fun e w' => e = .panicked [{ v := .iface 25 (.int .i64 (prE s l picks)), recovered := false }] ∧ Below w.heap.size w w' := by
  have HL : Hid (IsTxs w la l) := hl
  have HE : Hid (¬ firstNZ [lenR s, chkL l, mnE picks] = 0) := hE
  have HV : Hid (prE s l picks = firstNZ [lenR s, chkL l, mnE picks]) := rfl
  have KS : Hid (∀ w', Below w.heap.size w w' → Below w.heap.size w w' ∧ w'.cell? ⟨p, 0, none⟩ = some (.slice sa s.length sc) ∧ w'.cell? ⟨q, 0, none⟩ = some (.slice la l.length lc) ∧ w'.cell? ⟨r, 0, none⟩ = some (.slice pa picks.length pc)) := fun w' h => ⟨h, ext_cell h p0, ext_cell h q0, ext_cell h r0⟩
  have C59 : Hid (∀ w', Calls Tryz.prog 23 #[.slice sa s.length sc] w' fun e w'' => e = .returned (.int .i64 (lenR s)) ∧ Below w'.heap.size w' w'') := fun w' => (storeCheck_any s sa sc w').mono fun e w'' ⟨h1, h2⟩ => ⟨h1, by rw [h2]; exact Below.refl _ _⟩
  clear hl hE
  go_enter Tryz.func21, Tryz.ntmps21
  go_wp2_with fail
  go_region_held (fun w' => Below w.heap.size w w' ∧ w'.cell? ⟨p, 0, none⟩ = some (.slice sa s.length sc) ∧ w'.cell? ⟨q, 0, none⟩ = some (.slice la l.length lc) ∧ w'.cell? ⟨r, 0, none⟩ = some (.slice pa picks.length pc)) ((refine KS.out _ ?_; go_split_ands; repeat (first | assumption | exact Below.refl _ _ | refine grow_drew ?_ | refine grow_alloc ?_ _ | refine grow_trans ?_ (by assumption))))
    (first
      | (go_at_call 23; refine (C59.out _).mono ?_; rintro e wb ⟨rfl, hbb⟩)
      | (go_at_call 25; refine (rmany_any picks pa pc _).mono ?_; rintro e wc ⟨rfl, hbc⟩)
      | (go_at_call 24; refine (orderCheck_any la lc l _ ?_).mono ?_; (refine HL.out.below ?_; go_split_ands; repeat (first | assumption | exact Below.refl _ _ | refine grow_drew ?_ | refine grow_alloc ?_ _ | refine grow_trans ?_ (by assumption))); rintro e wa ⟨rfl, hba⟩)
      | (go_at_call 22; refine (panic_or (leave_nz [lenR s, chkL l, mnE picks] _ 3 _ (by simp) HE.out ?_) (.tuple #[])).mono ?_; (exact errs3 _ _ _ _ _ (by simp)); rintro e w' (⟨rfl, rfl⟩ | ⟨hF, rfl, rfl⟩); (refine ⟨rfl, by rw [HV.out], ?_⟩; go_split_ands; repeat (first | assumption | exact Below.refl _ _ | refine grow_drew ?_ | refine grow_alloc ?_ _ | refine grow_trans ?_ (by assumption)))))
  exact (‹Hid False› : Hid False).out.elim

set_option maxRecDepth 100000 in
set_option maxHeartbeats 4000000 in
theorem rcheck1_to (p q r : Nat) (w : World) (p0 : w.cell? ⟨p, 0, none⟩ = some (.slice sa s.length sc)) (q0 : w.cell? ⟨q, 0, none⟩ = some (.slice la l.length lc)) (r0 : w.cell? ⟨r, 0, none⟩ = some (.slice pa picks.length pc)) (hl : IsTxs w la l) (hp : IsInts w pa picks) (hE : prE s l picks = 0) :
    Calls Tryz.prog 21 #[.pointer (some ⟨p, 0, none⟩), .pointer (some ⟨q, 0, none⟩), .pointer (some ⟨r, 0, none⟩)] w fun e w' => ((ckE s l picks = 0 ∧ e = .returned (.bool true)) ∨ (¬ ckE s l picks = 0 ∧ e = .panicked [{ v := .iface 25 (.int .i64 (ckE s l picks)), recovered := false }])) ∧ Below w.heap.size w w' := by
  obtain ⟨i0, hi, hz0, hz1, hz2⟩ := info_parts Tryz.info4
  obtain ⟨h8, hC, hpl⟩ := prE_zero hE
  clear h8
  have hl8 := chkL_small hC
  have HL : Hid (IsTxs w la l) := hl
  have HPk : Hid (IsInts w pa picks) := hp
  have HE : Hid (firstNZ [lenR s, chkL l, mnE picks] = 0) := hE
  have HV : Hid (ckE s l picks = (if pkE l (d0 l) picks = 0 then leftE (dnP (d0 l) picks) else pkE l (d0 l) picks)) := if_pos hE
  have KS : Hid (∀ w', Below w.heap.size w w' → Below w.heap.size w w' ∧ w'.cell? ⟨p, 0, none⟩ = some (.slice sa s.length sc) ∧ w'.cell? ⟨q, 0, none⟩ = some (.slice la l.length lc) ∧ w'.cell? ⟨r, 0, none⟩ = some (.slice pa picks.length pc)) := fun w' h => ⟨h, ext_cell h p0, ext_cell h q0, ext_cell h r0⟩
  have C59 : Hid (∀ w', Calls Tryz.prog 23 #[.slice sa s.length sc] w' fun e w'' => e = .returned (.int .i64 (lenR s)) ∧ Below w'.heap.size w' w'') := fun w' => (storeCheck_any s sa sc w').mono fun e w'' ⟨h1, h2⟩ => ⟨h1, by rw [h2]; exact Below.refl _ _⟩
  have HM : Hid ((madeCells (Value.bool false).cells (l.length * 1)).toList = (d0 l).map Value.bool) := made_boolsR l.length hl8
  have HAT : Hid (∀ k, k < picks.length → pkE l (d0 l) (picks.take k) = 0 → (¬ pick1 l (dnP (d0 l) (picks.take k)) (picks.getD k 0) = 0 → pkE l (d0 l) picks = pick1 l (dnP (d0 l) (picks.take k)) (picks.getD k 0)) ∧ (pick1 l (dnP (d0 l) (picks.take k)) (picks.getD k 0) = 0 → pkE l (d0 l) (picks.take (k + 1)) = 0 ∧ dnP (d0 l) (picks.take (k + 1)) = (dnP (d0 l) (picks.take k)).set (picks.getD k 0).toNat true)) := fun k hk h0 => pkE_at l (d0 l) picks k hk h0
  have HDL : Hid (∀ k, (dnP (d0 l) (picks.take k)).length = l.length) := fun k => by
    show _ = _
    rw [dnP_len]
    simp [d0]
  have CP : Hid (∀ k (g : Nat) (n : Int) (w' : World), IsTxs w' la l → IsBools w' (some ⟨g, 0, none⟩) (dnP (d0 l) (picks.take k)) → Calls Tryz.prog 26 #[.slice la l.length lc, .slice (some ⟨g, 0, none⟩) l.length l.length, .int .i64 n] w' fun e w'' => e = .returned (.int .i64 (pick1 l (dnP (d0 l) (picks.take k)) n)) ∧ Below w'.heap.size w' w'') := fun k g n w' h1 h2 => by
    have hE2 : rdE l (dnP (d0 l) (picks.take k)) = 0 := by
      show firstNZ [chkL l, dE l (dnP (d0 l) (picks.take k))] = 0
      rw [hC, show dE l (dnP (d0 l) (picks.take k)) = 0 from if_pos (HDL.out k)]
      rfl
    have h := pick_any la lc l (some ⟨g, 0, none⟩) l.length (dnP (d0 l) (picks.take k)) n w' h1 h2 hE2
    rw [HDL.out k] at h
    exact h
  have CLf : Hid (∀ (g : Nat) (w' : World), IsBools w' (some ⟨g, 0, none⟩) (dnP (d0 l) picks) → Calls Tryz.prog 27 #[.slice (some ⟨g, 0, none⟩) l.length l.length] w' fun e w'' => e = .returned (.int .i64 (leftE (dnP (d0 l) picks))) ∧ Below w'.heap.size w' w'') := fun g w' h => by
    have hlen : (dnP (d0 l) picks).length = l.length := by
      have := HDL.out picks.length
      rw [List.take_of_length_le (Nat.le_refl _)] at this
      exact this
    have h2 := left_any (dnP (d0 l) picks) (some ⟨g, 0, none⟩) l.length w' h (by rw [hlen]; omega)
    rw [hlen] at h2
    exact h2
  have HP1 : Hid (∀ k n, pick1 l (dnP (d0 l) (picks.take k)) n = 0 → 0 ≤ n ∧ n.toNat < l.length) := fun k n h => ⟨(pick1_zero h).1, (pick1_zero h).2.1⟩
  have HK0 : Hid (pkE l (d0 l) (picks.take 0) = 0) := rfl
  clear hl hp hE hC
  go_enter Tryz.func21, Tryz.ntmps21
  go_wp2_with fail
  go_region_held3 (fun w' => Below w.heap.size w w' ∧ w'.cell? ⟨p, 0, none⟩ = some (.slice sa s.length sc) ∧ w'.cell? ⟨q, 0, none⟩ = some (.slice la l.length lc) ∧ w'.cell? ⟨r, 0, none⟩ = some (.slice pa picks.length pc)) ((refine KS.out _ ?_; go_split_ands; repeat (first | assumption | exact Below.refl _ _ | refine grow_drew ?_ | refine grow_alloc ?_ _ | refine grow_trans ?_ (by assumption))))
    (first
      | (go_at_call 23; refine (C59.out _).mono ?_; rintro e wb ⟨rfl, hbb⟩)
      | (go_at_call 25; refine (rmany_any picks pa pc _).mono ?_; rintro e wc ⟨rfl, hbc⟩)
      | (go_at_call 24; refine (orderCheck_any la lc l _ ?_).mono ?_; (refine HL.out.below ?_; go_split_ands; repeat (first | assumption | exact Below.refl _ _ | refine grow_drew ?_ | refine grow_alloc ?_ _ | refine grow_trans ?_ (by assumption))); rintro e wa ⟨rfl, hba⟩)
      | (go_at_call 22; refine (leave_zero [lenR s, chkL l, mnE picks] _ 3 _ (by simp) HE.out ?_).mono ?_; (exact errs3 _ _ _ _ _ (by simp)); rintro e w' ⟨rfl, rfl⟩))
  all_goals (
    go_split_ands
    have BB : Below w.heap.size w (wc.alloc (.cells #[.int .i64 (lenR s), .int .i64 (chkL l), .int .i64 (mnE picks)] 25)) := by assumption
    obtain ⟨_, p1, q1, r1⟩ := KS.out _ BB
    have HB : Hid (Below w.heap.size w (wc.alloc (.cells #[.int .i64 (lenR s), .int .i64 (chkL l), .int .i64 (mnE picks)] 25))) := BB
    clear BB hba hbb hbc C59 p1
    generalize wc.alloc (.cells #[.int .i64 (lenR s), .int .i64 (chkL l), .int .i64 (mnE picks)] 25) = W at *
    go_upto_region 3 with (first | (at_make; refine wpList_make_full _ rfl _ _ 44 rfl W.heap.size 4 i0 (.bool false) 1 Tryz.underlying44 hi hz0 hz1 .i64 .i64 _ _ l.length rfl rfl rfl rfl (by rw [hz2]; omega) (by unfold maxLen; omega) (by simp) ?_; intro w2 hown hgrow) | go_in)
    rw [HM.out] at hown
    have U2 := Below.grown (Below.refl W.heap.size W) hgrow (by omega) (fun j hj => by cases hj)
    have hm0 : Hid (w2.ownsRow W.heap.size 4 1 (.slice (some ⟨W.heap.size, 0, none⟩) l.length l.length) l.length ((dnP (d0 l) (picks.take 0)).map Value.bool)) := hown
    have BW2 : Hid (Below w.heap.size w w2) := grow_trans HB.out U2
    have hwg : w.heap.size ≤ W.heap.size := HB.out.size
    have q2 := ext_cell U2 q1
    have r2 := ext_cell U2 r1
    have hqg : q ≠ W.heap.size := by
      have := World.block_lt_of_cell? W _ q1
      simp only at this
      omega
    have hrg : r ≠ W.heap.size := by
      have := World.block_lt_of_cell? W _ r1
      simp only at this
      omega
    clear hown hgrow HM U2 q1 r1 KS
    generalize W.heap.size = g at *
    go_wp2
    go_loopw [6, 20] (fun _ i wr => ∃ k : Nat, k ≤ picks.length ∧ i = .int .i64 k ∧ Hid (pkE l (d0 l) (picks.take k) = 0) ∧ Hid (wr.ownsRow g 4 1 (.slice (some ⟨g, 0, none⟩) l.length l.length) l.length ((dnP (d0 l) (picks.take k)).map Value.bool)) ∧ wr.cell? ⟨q, 0, none⟩ = some (.slice la l.length lc) ∧ wr.cell? ⟨r, 0, none⟩ = some (.slice pa picks.length pc) ∧ Hid (Below w.heap.size w wr)) (fun _ i _ => picks.length - (intOf i).toNat)
    case atStart => exact ⟨0, Nat.zero_le _, rfl, HK0, hm0, q2, r2, BW2⟩
    case round =>
      clear q2 r2 hm0 BW2
      obtain ⟨k, hk, rfl, hP0, hown, q3, r3, hB⟩ := hrel
      by_cases hlt : k < picks.length
      · obtain ⟨b, off, rfl, _, c0⟩ := HPk.out k hlt
        have e0 := ext_cell hB.out c0
        obtain ⟨HN, HY⟩ := HAT.out k hlt hP0.out
        have CPk := CP.out k g (picks.getD k 0) wr (HL.out.below hB.out) (bools_of_owns hown.out)
        have HZ := HP1.out k (picks.getD k 0)
        have HDk := HDL.out k
        generalize picks.getD k 0 = z at *
        have j1 : (0 : Int) ≤ (k : Int) := by omega
        have j2 : (k : Int) < (picks.length : Int) := by omega
        clear c0 hP0
        by_cases hpz : pick1 l (dnP (d0 l) (picks.take k)) z = 0
        · obtain ⟨HY1, HY2⟩ := HY hpz
          obtain ⟨z0, zl⟩ := HZ hpz
          obtain ⟨y, rfl⟩ := Int.eq_ofNat_of_zero_le z0
          have HY1' : Hid (pkE l (d0 l) (picks.take (k + 1)) = 0) := HY1
          have HY2' : Hid (dnP (d0 l) (picks.take (k + 1)) = (dnP (d0 l) (picks.take k)).set y true) := HY2
          have zl' : y < l.length := by simpa using zl
          rw [hpz] at CPk
          clear HN HY HZ hpz HY1 HY2 zl z0
          have CPk' : Hid (Calls Tryz.prog 26 #[.slice la l.length lc, .slice (some ⟨g, 0, none⟩) l.length l.length, .int .i64 y] wr fun e w'' => e = .returned (.int .i64 0) ∧ Below wr.heap.size wr w'') := CPk
          clear CPk
          go_wp2_with fail
          refine CPk'.out.mono ?_
          clear CPk'
          rintro e u1 ⟨rfl, c1⟩
          have ho1 : Hid (u1.ownsRow g 4 1 (.slice (some ⟨g, 0, none⟩) l.length l.length) l.length ((dnP (d0 l) (picks.take k)).map Value.bool)) := owns_below hown.out c1
          have q4 := ext_cell c1 q3
          have r4 := ext_cell c1 r3
          have B1 : Hid (Below w.heap.size w u1) := grow_trans hB.out c1
          clear c1 hown hB q3 r3 e0
          go_wp2_with fail
          refine (leave_zero [0] _ 1 _ (by simp) rfl (errs1 _ _ _ rfl)).mono ?_
          rintro e u2 ⟨rfl, hu2⟩
          have c2 : Below u1.heap.size u1 u2 := by rw [hu2]; exact grow_alloc (Below.refl _ _) _
          have ho2 : Hid (u2.ownsRow g 4 1 (.slice (some ⟨g, 0, none⟩) l.length l.length) l.length ((dnP (d0 l) (picks.take k)).map Value.bool)) := owns_below ho1.out c2
          have q5 := ext_cell c2 q4
          have r5 := ext_cell c2 r4
          have B2 : Hid (Below w.heap.size w u2) := grow_trans B1.out c2
          clear c2 hu2 ho1 q4 r4 B1
          have s3 := bool_cell ho2.out y (by rw [HDk]; exact zl')
          have s4 : u2.frozen? ⟨g, y, none⟩ = false := ho2.out.frozenAt y
          have R1 : Hid ((u2.setCell ⟨g, y, none⟩ (.bool true)).ownsRow g 4 1 (.slice (some ⟨g, 0, none⟩) l.length l.length) l.length ((dnP (d0 l) (picks.take (k + 1))).map Value.bool)) := by
            have h := (ho2.out.stored y (.bool true)).1
            rw [HY2'.out, List.map_set]
            exact h
          have R2 : (u2.setCell ⟨g, y, none⟩ (.bool true)).cell? ⟨q, 0, none⟩ = some (.slice la l.length lc) := by
            rw [World.cell?_setCell_far _ _ _ _ (by simpa using fun h => hqg h.symm)]; exact q5
          have R3 : (u2.setCell ⟨g, y, none⟩ (.bool true)).cell? ⟨r, 0, none⟩ = some (.slice (some ⟨b, off, none⟩) picks.length pc) := by
            rw [World.cell?_setCell_far _ _ _ _ (by simpa using fun h => hrg h.symm)]; exact r5
          have R4 : Hid (Below w.heap.size w (u2.setCell ⟨g, y, none⟩ (.bool true))) := grow_set B2.out (by show w.heap.size ≤ g; omega) _
          generalize (dnP (d0 l) (picks.take k)).getD y false = old at *
          have i3 : (0 : Int) ≤ (y : Int) := by omega
          have i4 : (y : Int) < (l.length : Int) := by omega
          clear ho2 q5 r5 B2 HDk
          go_wp2
          go_roundw
          case rel => exact ⟨k + 1, by omega, by go_num, HY1', R1, R2, R3, R4⟩
          case measure => simp [intOf]; omega
        · have hV : Hid (ckE s l picks = pick1 l (dnP (d0 l) (picks.take k)) z) := by
            show _ = _
            rw [HV.out, HN hpz, if_neg hpz]
          have HPZ : Hid (¬ pick1 l (dnP (d0 l) (picks.take k)) z = 0) := hpz
          have hf : Hid (firstNZ [pick1 l (dnP (d0 l) (picks.take k)) z] = pick1 l (dnP (d0 l) (picks.take k)) z) := nz_some _ _ hpz
          clear HN HY HZ hpz HDk
          generalize pick1 l (dnP (d0 l) (picks.take k)) z = pe at *
          have CPk' : Hid (Calls Tryz.prog 26 #[.slice la l.length lc, .slice (some ⟨g, 0, none⟩) l.length l.length, .int .i64 z] wr fun e w'' => e = .returned (.int .i64 pe) ∧ Below wr.heap.size wr w'') := CPk
          clear CPk
          go_wp2_with fail
          refine CPk'.out.mono ?_
          clear CPk'
          rintro e u1 ⟨rfl, c1⟩
          have B1 : Hid (Below w.heap.size w u1) := grow_trans hB.out c1
          clear c1 hown hB q3 r3 e0
          go_wp2_with fail
          refine (leave_nz [pe] _ 1 _ (by simp) (by rw [hf.out]; exact HPZ.out) (errs1 _ _ _ rfl)).mono ?_
          rintro e u2 ⟨rfl, rfl⟩
          rw [hf.out]
          exact ⟨rfl, .inr ⟨by rw [hV.out]; exact HPZ.out, by rw [hV.out]⟩, grow_alloc B1.out _⟩
      · have hkk : k = picks.length := by omega
        have hP1 : pkE l (d0 l) picks = 0 := by
          have h := hP0.out
          rw [hkk, List.take_of_length_le (Nat.le_refl _)] at h
          exact h
        have hV : Hid (ckE s l picks = leftE (dnP (d0 l) picks)) := by
          show _ = _
          rw [HV.out, if_pos hP1]
        have hIs : IsBools wr (some ⟨g, 0, none⟩) (dnP (d0 l) picks) := by
          have h := hown.out
          rw [hkk, List.take_of_length_le (Nat.le_refl _)] at h
          exact bools_of_owns h
        have CL := CLf.out g wr hIs
        clear hP0 hown hIs hP1 q3 r3
        by_cases hz : leftE (dnP (d0 l) picks) = 0
        · rw [hz] at CL hV
          have CL' : Hid (Calls Tryz.prog 27 #[.slice (some ⟨g, 0, none⟩) l.length l.length] wr fun e w'' => e = .returned (.int .i64 0) ∧ Below wr.heap.size wr w'') := CL
          clear CL hz
          go_wp2_with fail
          refine CL'.out.mono ?_
          clear CL'
          rintro e u1 ⟨rfl, c1⟩
          have B1 : Hid (Below w.heap.size w u1) := grow_trans hB.out c1
          clear c1 hB
          go_wp2_with fail
          refine (leave_zero [0] _ 1 _ (by simp) rfl (errs1 _ _ _ rfl)).mono ?_
          rintro e u2 ⟨rfl, hu2⟩
          have B2 : Hid (Below w.heap.size w u2) := by rw [hu2]; exact grow_alloc B1.out _
          clear hu2 B1
          go_wp2
          go_ret
          exact ⟨.inl ⟨hV.out, rfl⟩, B2.out⟩
        · have HPZ : Hid (¬ leftE (dnP (d0 l) picks) = 0) := hz
          have hf : Hid (firstNZ [leftE (dnP (d0 l) picks)] = leftE (dnP (d0 l) picks)) := nz_some _ _ hz
          clear hz
          generalize leftE (dnP (d0 l) picks) = pe at *
          have CL' : Hid (Calls Tryz.prog 27 #[.slice (some ⟨g, 0, none⟩) l.length l.length] wr fun e w'' => e = .returned (.int .i64 pe) ∧ Below wr.heap.size wr w'') := CL
          clear CL
          go_wp2_with fail
          refine CL'.out.mono ?_
          clear CL'
          rintro e u1 ⟨rfl, c1⟩
          have B1 : Hid (Below w.heap.size w u1) := grow_trans hB.out c1
          clear c1 hB
          go_wp2_with fail
          refine (leave_nz [pe] _ 1 _ (by simp) (by rw [hf.out]; exact HPZ.out) (errs1 _ _ _ rfl)).mono ?_
          rintro e u2 ⟨rfl, rfl⟩
          rw [hf.out]
          exact ⟨rfl, .inr ⟨by rw [hV.out]; exact HPZ.out, by rw [hV.out]⟩, grow_alloc B1.out _⟩)

set_option maxRecDepth 100000 in
set_option maxHeartbeats 1000000 in
theorem rcheck_by (b : Bool) (x : Int) (w : World)
    (h : Calls Tryz.prog 20 #[.func (.func 21) #[] #[.pointer (some ⟨w.heap.size, 0, none⟩), .pointer (some ⟨w.heap.size + 1, 0, none⟩), .pointer (some ⟨w.heap.size + 2, 0, none⟩)]] (((w.alloc (.cells #[.slice sa s.length sc] 22)).alloc (.cells #[.slice la l.length lc] 23)).alloc (.cells #[.slice pa picks.length pc] 22)) fun e w' => e = .returned (.tuple #[.bool b, .int .i64 x]) ∧ Below w.heap.size w w') :
    Calls Tryz.prog 8 #[.slice sa s.length sc, .slice la l.length lc, .slice pa picks.length pc] w fun e w' => e = .returned (.int .i64 x) ∧ Below w.heap.size w w' := by
  have hmf : ∀ (fn : Fn) (first cap : Array Value) (w : World), (Instr.makeFunc fn first cap).run Tryz.prog w = .ok (.func fn first cap) w := fun _ _ _ _ => rfl
  have H : Hid (Calls Tryz.prog 20 #[.func (.func 21) #[] #[.pointer (some ⟨w.heap.size, 0, none⟩), .pointer (some ⟨w.heap.size + 1, 0, none⟩), .pointer (some ⟨w.heap.size + 2, 0, none⟩)]] (((w.alloc (.cells #[.slice sa s.length sc] 22)).alloc (.cells #[.slice la l.length lc] 23)).alloc (.cells #[.slice pa picks.length pc] 22)) fun e w' => e = .returned (.tuple #[.bool b, .int .i64 x]) ∧ Below w.heap.size w w') := h
  clear h
  go_enter Tryz.func8, Tryz.ntmps8
  go_wp2_with fail
  refine H.out.mono ?_
  clear H
  rintro e w1 ⟨rfl, hb⟩
  have hB : Hid (Below w.heap.size w w1) := hb
  clear hb
  go_wp2
  go_ret
  exact ⟨rfl, hB.out⟩

set_option maxRecDepth 100000 in
theorem rcheck_any (w : World) (hl : IsTxs w la l) (hp : IsInts w pa picks) :
    Calls Tryz.prog 8 #[.slice sa s.length sc, .slice la l.length lc, .slice pa picks.length pc] w fun e w' => e = .returned (.int .i64 (ckE s l picks)) ∧ Below w.heap.size w w' := by
  have g1 : Below w.heap.size w (((w.alloc (.cells #[.slice sa s.length sc] 22)).alloc (.cells #[.slice la l.length lc] 23)).alloc (.cells #[.slice pa picks.length pc] 22)) := grow_alloc (grow_alloc (grow_alloc (Below.refl _ _) _) _) _
  have p : ((((w.alloc (.cells #[.slice sa s.length sc] 22)).alloc (.cells #[.slice la l.length lc] 23)).alloc (.cells #[.slice pa picks.length pc] 22)).alloc (.cells #[.int .i64 0] 25)).cell? ⟨w.heap.size, 0, none⟩ = some (.slice sa s.length sc) := by
    rw [World.cell?_alloc_lt _ _ _ (by simp; omega), World.cell?_alloc_lt _ _ _ (by simp; omega), World.cell?_alloc_lt _ _ _ (by simp)]; simp
  have q : ((((w.alloc (.cells #[.slice sa s.length sc] 22)).alloc (.cells #[.slice la l.length lc] 23)).alloc (.cells #[.slice pa picks.length pc] 22)).alloc (.cells #[.int .i64 0] 25)).cell? ⟨w.heap.size + 1, 0, none⟩ = some (.slice la l.length lc) := by
    rw [World.cell?_alloc_lt _ _ _ (by simp), World.cell?_alloc_lt _ _ _ (by simp)]; simp
  have r : ((((w.alloc (.cells #[.slice sa s.length sc] 22)).alloc (.cells #[.slice la l.length lc] 23)).alloc (.cells #[.slice pa picks.length pc] 22)).alloc (.cells #[.int .i64 0] 25)).cell? ⟨w.heap.size + 2, 0, none⟩ = some (.slice pa picks.length pc) := by
    rw [World.cell?_alloc_lt _ _ _ (by simp)]; exact at_new _ _ 22 _ 0 _ (by simp) rfl
  by_cases he : prE s l picks = 0
  · by_cases hc : ckE s l picks = 0
    · rw [hc]
      refine rcheck_by sa sc s la lc l pa pc picks true 0 w ?_
      generalize (((w.alloc (.cells #[.slice sa s.length sc] 22)).alloc (.cells #[.slice la l.length lc] 23)).alloc (.cells #[.slice pa picks.length pc] 22)) = W at *
      refine (caughtBo_ret 21 _ (fun _ => rfl) (fun v _ => v = .bool true) W (fun _ _ h => h) ((rcheck1_to sa sc s la lc l pa pc picks _ _ _ _ p q r (hl.below (grow_alloc g1 _)) (hp.below (grow_alloc g1 _)) he).mono ?_)).mono ?_
      · rintro e w' ⟨h | h, hb⟩
        · exact ⟨_, h.2, rfl, hb.mono (by simp)⟩
        · exact absurd hc h.1
      · rintro e w' ⟨v, rfl, rfl, hb⟩
        exact ⟨rfl, grow_trans g1 hb⟩
    · refine rcheck_by sa sc s la lc l pa pc picks false _ w ?_
      generalize (((w.alloc (.cells #[.slice sa s.length sc] 22)).alloc (.cells #[.slice la l.length lc] 23)).alloc (.cells #[.slice pa picks.length pc] 22)) = W at *
      refine (caughtBo_pan 21 _ (fun _ => rfl) (ckE s l picks) W ((rcheck1_to sa sc s la lc l pa pc picks _ _ _ _ p q r (hl.below (grow_alloc g1 _)) (hp.below (grow_alloc g1 _)) he).mono ?_)).mono ?_
      · rintro e w' ⟨h | h, hb⟩
        · exact absurd h.1 hc
        · exact ⟨h.2, hb.mono (by simp)⟩
      · rintro e w' ⟨rfl, hb⟩
        exact ⟨rfl, grow_trans g1 hb⟩
  · have e1 : ckE s l picks = prE s l picks := if_neg he
    rw [e1]
    refine rcheck_by sa sc s la lc l pa pc picks false _ w ?_
    generalize (((w.alloc (.cells #[.slice sa s.length sc] 22)).alloc (.cells #[.slice la l.length lc] 23)).alloc (.cells #[.slice pa picks.length pc] 22)) = W at *
    refine (caughtBo_pan 21 _ (fun _ => rfl) (prE s l picks) W ((rcheck1_pan sa sc s la lc l pa pc picks _ _ _ _ p q r (hl.below (grow_alloc g1 _)) he).mono ?_)).mono ?_
    · rintro e w' ⟨rfl, hb⟩
      exact ⟨rfl, hb.mono (by simp)⟩
    · rintro e w' ⟨rfl, hb⟩
      exact ⟨rfl, grow_trans g1 hb⟩
end Go.Proofs.YtikolifbljnokaaGreat
