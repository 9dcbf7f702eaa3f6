/-
  locks.Queue: those that are not done and want a key, in their order.
  Conditions: the arguments can be read.
-/
import Derived.Test.YtikolifbljnokaaLocksF
import Derived.WalkKit
import Derived.WalkSpells
import Derived.WalkLawsBesides
import Derived.Defers
import Derived.Recover
import Derived.ProofKit
import Derived.Deep.RegionHeld
import Derived.Deep.RegionHeld3
import Derived.BigQuiet
import Derived.Deep.RegionLaw
import Derived.Deep.DeepCutAuto
import Derived.Maps.AppendAt
namespace Go.Proofs.Ytikolifbljnokaa
open Go.RowKit

/-- Queue's errors; who stands in a queue. -/
def quE (l : List TxA) (done : List Bool) (key : Int) : Int := firstNZ [chkL l, dE l done, keyE key]
def quN (l : List TxA) (done : List Bool) (k : Nat) : List Nat := (qOf l done k).map Prod.fst
def quL (l : List TxA) (done : List Bool) (key : Int) : List Nat := if quE l done key = 0 then quN l done key.toNat else []
theorem quE_zero {l : List TxA} {done : List Bool} {key : Int} (h : quE l done key = 0) : chkL l = 0 ∧ done.length = l.length ∧ 0 ≤ key ∧ key < 8 := by
  have hz := firstNZ_zero _ h
  have h1 : chkL l = 0 := by simpa using hz 0
  have h2 : dE l done = 0 := by simpa using hz 1
  have h3 : keyE key = 0 := by simpa using hz 2
  refine ⟨h1, ?_, ?_⟩
  · unfold dE at h2
    split at h2
    · assumption
    · omega
  · unfold keyE at h3
    split at h3
    · omega
    · omega
theorem quN_step (q : List (Nat × Bool)) (j : Nat) (hj : j < q.length) : nI ((q.map Prod.fst).take (j + 1)) = nI ((q.map Prod.fst).take j) ++ [((qI q).getD j (0, false)).1] := by
  rw [List.take_succ_eq_append_getElem (by rw [List.length_map]; exact hj), nI_app]
  congr 1
  unfold qI nI
  simp [List.getD, hj]

variable (la : Option Addr) (lc : Nat) (l : List TxA) (ba : Option Addr) (bc : Nat) (done : List Bool)

set_option maxRecDepth 100000 in
set_option maxHeartbeats 1000000 in
theorem queue1_pan (key : Int) (p q r : Nat) (w : World) (p0 : w.cell? ⟨p, 0, none⟩ = some (.slice la l.length lc)) (q0 : w.cell? ⟨q, 0, none⟩ = some (.slice ba done.length bc)) (r0 : w.cell? ⟨r, 0, none⟩ = some (.int .i64 key)) (hl : IsTxs w la l) (hE : ¬ quE l done key = 0) :
    Calls Try.prog 62 #[.pointer (some ⟨p, 0, none⟩), .pointer (some ⟨q, 0, none⟩), .pointer (some ⟨r, 0, none⟩)] w fun e w' => e = .panicked [{ v := .iface 28 (.int .i64 (quE l done key)), recovered := false }] ∧ Below w.heap.size w w' := by
  have HL : Hid (IsTxs w la l) := hl
  have HE : Hid (¬ firstNZ [chkL l, dE l done, keyE key] = 0) := hE
  have HV : Hid (quE l done key = firstNZ [chkL l, dE l done, keyE key]) := rfl
  have KS : Hid (∀ w', Below w.heap.size w w' → Below w.heap.size w w' ∧ w'.cell? ⟨p, 0, none⟩ = some (.slice la l.length lc) ∧ w'.cell? ⟨q, 0, none⟩ = some (.slice ba done.length bc) ∧ w'.cell? ⟨r, 0, none⟩ = some (.int .i64 key)) := fun w' h => ⟨h, ext_cell h p0, ext_cell h q0, ext_cell h r0⟩
  have C63 : Hid (∀ w', Calls Try.prog 63 #[.slice la l.length lc, .slice ba done.length bc] w' fun e w'' => e = .returned (.int .i64 (dE l done)) ∧ Below w'.heap.size w' w'') := fun w' => doneError_any la ba lc bc l.length done.length w'
  clear hl hE
  go_enter Try.func62, Try.ntmps62
  go_wp2_with fail
  go_region_held (fun w' => Below w.heap.size w w' ∧ w'.cell? ⟨p, 0, none⟩ = some (.slice la l.length lc) ∧ w'.cell? ⟨q, 0, none⟩ = some (.slice ba done.length bc) ∧ w'.cell? ⟨r, 0, none⟩ = some (.int .i64 key)) ((refine KS.out _ ?_; go_split_ands; repeat (first | assumption | exact Below.refl _ _ | refine grow_drew ?_ | refine grow_alloc ?_ _ | refine grow_trans ?_ (by assumption))))
    (first
      | (go_at_call 63; refine (C63.out _).mono ?_; rintro e wb ⟨rfl, hbb⟩)
      | (go_at_call 64; refine (keyError_any key _).mono ?_; rintro e wc ⟨rfl, hbc⟩)
      | (go_at_call 42; refine (orderCheck_any la lc l _ ?_).mono ?_; (refine HL.out.below ?_; go_split_ands; repeat (first | assumption | exact Below.refl _ _ | refine grow_drew ?_ | refine grow_alloc ?_ _ | refine grow_trans ?_ (by assumption))); rintro e wa ⟨rfl, hba⟩)
      | (go_at_call 41; refine (panic_or (leave_nz [chkL l, dE l done, keyE key] _ 3 _ (by simp) HE.out ?_) (.tuple #[])).mono ?_; (exact errs3 _ _ _ _ _ (by simp)); rintro e w' (⟨rfl, rfl⟩ | ⟨hF, rfl, rfl⟩); (refine ⟨rfl, by rw [HV.out], ?_⟩; go_split_ands; repeat (first | assumption | exact Below.refl _ _ | refine grow_drew ?_ | refine grow_alloc ?_ _ | refine grow_trans ?_ (by assumption)))))
  exact (‹Hid False› : Hid False).out.elim

set_option maxRecDepth 100000 in
set_option maxHeartbeats 4000000 in
theorem queue1_ok0 (p q r : Nat) (w : World) (p0 : w.cell? ⟨p, 0, none⟩ = some (.slice la l.length lc)) (q0 : w.cell? ⟨q, 0, none⟩ = some (.slice ba done.length bc)) (r0 : w.cell? ⟨r, 0, none⟩ = some (.int .i64 0)) (hl : IsTxs w la l) (hb : IsBools w ba done) (hE : quE l done 0 = 0) :
    Calls Try.prog 62 #[.pointer (some ⟨p, 0, none⟩), .pointer (some ⟨q, 0, none⟩), .pointer (some ⟨r, 0, none⟩)] w fun e w' => ∃ v, e = .returned v ∧ w'.ownsRow w.heap.size 3 1 v (nI (quN l done 0)).length ((nI (quN l done 0)).map (Value.int .i64)) ∧ Below w.heap.size w w' := by
  obtain ⟨i0, hi, hz0, hz1, hz2⟩ := info_parts Try.info3
  obtain ⟨hC, hd, _⟩ := quE_zero hE
  have hl8 := chkL_small hC
  have HL : Hid (IsTxs w la l) := hl
  have HE : Hid (firstNZ [chkL l, dE l done, keyE 0] = 0) := hE
  have KS : Hid (∀ w', Below w.heap.size w w' → Below w.heap.size w w' ∧ w'.cell? ⟨p, 0, none⟩ = some (.slice la l.length lc) ∧ w'.cell? ⟨q, 0, none⟩ = some (.slice ba done.length bc) ∧ w'.cell? ⟨r, 0, none⟩ = some (.int .i64 0)) := fun w' h => ⟨h, ext_cell h p0, ext_cell h q0, ext_cell h r0⟩
  have C63 : Hid (∀ w', Calls Try.prog 63 #[.slice la l.length lc, .slice ba done.length bc] w' fun e w'' => e = .returned (.int .i64 (dE l done)) ∧ Below w'.heap.size w' w'') := fun w' => doneError_any la ba lc bc l.length done.length w'
  have C65 : Hid (∀ w', Below w.heap.size w w' → Calls Try.prog 65 #[.slice la l.length lc, .slice ba done.length bc] w' fun e w'' => ∃ (va : Nat → Option Addr) (vc : Nat → Nat), e = .returned (.agg #[.slice (va 0) (qOf l done 0).length (vc 0), .slice (va 1) (qOf l done 1).length (vc 1), .slice (va 2) (qOf l done 2).length (vc 2), .slice (va 3) (qOf l done 3).length (vc 3), .slice (va 4) (qOf l done 4).length (vc 4), .slice (va 5) (qOf l done 5).length (vc 5), .slice (va 6) (qOf l done 6).length (vc 6), .slice (va 7) (qOf l done 7).length (vc 7)]) ∧ Hid (∀ k, k < 8 → IsLks w'' (va k) (qI (qOf l done k)) ∧ (qOf l done k).length ≤ vc k) ∧ Below w'.heap.size w' w'') := fun w' h => by
    have h2 := queuesOf_any la lc l ba bc done w' (hl.below h) (hb.below h) hC hd
    have e2 : Value.slice ba l.length bc = Value.slice ba done.length bc := by rw [hd]
    rw [e2] at h2
    exact h2
  have HQ8 : Hid ((qOf l done 0).length ≤ 8) := qOf_len l done hl8 0
  have HIX : Hid (∀ (va : Nat → Option Addr) (vc : Nat → Nat) (w : World), Sem.run Try.prog (Instr.index 108 (.agg #[.slice (va 0) (qOf l done 0).length (vc 0), .slice (va 1) (qOf l done 1).length (vc 1), .slice (va 2) (qOf l done 2).length (vc 2), .slice (va 3) (qOf l done 3).length (vc 3), .slice (va 4) (qOf l done 4).length (vc 4), .slice (va 5) (qOf l done 5).length (vc 5), .slice (va 6) (qOf l done 6).length (vc 6), .slice (va 7) (qOf l done 7).length (vc 7)]) (.int .i64 0)) w = .ok (.slice (va 0) (qOf l done 0).length (vc 0)) w) := fun va vc w => rfl
  clear hl hb hE hC hd
  go_enter Try.func62, Try.ntmps62
  go_wp2_with fail
  go_region_held3 (fun w' => Below w.heap.size w w' ∧ w'.cell? ⟨p, 0, none⟩ = some (.slice la l.length lc) ∧ w'.cell? ⟨q, 0, none⟩ = some (.slice ba done.length bc) ∧ w'.cell? ⟨r, 0, none⟩ = some (.int .i64 0)) ((refine KS.out _ ?_; go_split_ands; repeat (first | assumption | exact Below.refl _ _ | refine grow_drew ?_ | refine grow_alloc ?_ _ | refine grow_trans ?_ (by assumption))))
    (first
      | (go_at_call 63; refine (C63.out _).mono ?_; rintro e wb ⟨rfl, hbb⟩)
      | (go_at_call 64; refine (keyError_any 0 _).mono ?_; rintro e wc ⟨rfl, hbc⟩)
      | (go_at_call 42; refine (orderCheck_any la lc l _ ?_).mono ?_; (refine HL.out.below ?_; go_split_ands; repeat (first | assumption | exact Below.refl _ _ | refine grow_drew ?_ | refine grow_alloc ?_ _ | refine grow_trans ?_ (by assumption))); rintro e wa ⟨rfl, hba⟩)
      | (go_at_call 41; refine (leave_zero [chkL l, dE l done, keyE 0] _ 3 _ (by simp) HE.out ?_).mono ?_; (exact errs3 _ _ _ _ _ (by simp)); rintro e w' ⟨rfl, rfl⟩))
  all_goals (
    go_split_ands
    have BB : Below w.heap.size w (wc.alloc (.cells #[.int .i64 (chkL l), .int .i64 (dE l done), .int .i64 (keyE 0)] 28)) := by assumption
    obtain ⟨_, p1, q1, r1⟩ := KS.out _ BB
    have HB : Hid (Below w.heap.size w (wc.alloc (.cells #[.int .i64 (chkL l), .int .i64 (dE l done), .int .i64 (keyE 0)] 28))) := BB
    clear BB hba hbb hbc C63
    generalize wc.alloc (.cells #[.int .i64 (chkL l), .int .i64 (dE l done), .int .i64 (keyE 0)] 28) = W at *
    have KS2 : Hid (∀ w', Below W.heap.size W w' → Below W.heap.size W w' ∧ w'.cell? ⟨p, 0, none⟩ = some (.slice la l.length lc) ∧ w'.cell? ⟨q, 0, none⟩ = some (.slice ba done.length bc) ∧ w'.cell? ⟨r, 0, none⟩ = some (.int .i64 0)) := fun w' h => ⟨h, ext_cell h p1, ext_cell h q1, ext_cell h r1⟩
    clear KS
    go_upto_region 3 with fail
    go_region_held3 (fun w' => Below W.heap.size W w' ∧ w'.cell? ⟨p, 0, none⟩ = some (.slice la l.length lc) ∧ w'.cell? ⟨q, 0, none⟩ = some (.slice ba done.length bc) ∧ w'.cell? ⟨r, 0, none⟩ = some (.int .i64 0)) ((refine KS2.out _ ?_; go_split_ands; repeat (first | assumption | exact Below.refl _ _ | refine grow_drew ?_ | refine grow_alloc ?_ _ | refine grow_trans ?_ (by assumption))))
      (first
        | (go_at_call 65; refine (C65.out _ ?_).mono ?_; (refine grow_trans HB.out ?_; go_split_ands; assumption); rintro e w1 ⟨va, vc, rfl, hQ, hb1⟩; have hix := HIX.out va vc))
    all_goals (
      go_split_ands
      have B1 : Hid (Below W.heap.size W w1) := by assumption
      have hQ0 : Hid (IsLks w1 (va 0) (qI (qOf l done 0))) := (hQ.out 0 (by omega)).1
      have HBW : Hid (Below w.heap.size w w1) := grow_trans HB.out B1.out
      have HFS : Hid (∀ j, j < (qOf l done 0).length → nI (((qOf l done 0).map Prod.fst).take (j + 1)) = nI (((qOf l done 0).map Prod.fst).take j) ++ [((qI (qOf l done 0)).getD j (0, false)).1]) := fun j hj => quN_step (qOf l done 0) j hj
      have HFN : Hid (quN l done 0 = (qOf l done 0).map Prod.fst) := rfl
      have hql : Hid ((qI (qOf l done 0)).length = (qOf l done 0).length) := qI_len _
      clear KS2 C65 hQ hb1 p1 q1 r1 HB B1
      generalize qI (qOf l done 0) = qi at *
      generalize hqo : (qOf l done 0).map Prod.fst = qf at *
      have hqfl : Hid (qf.length = (qOf l done 0).length) := by
        show _ = _
        rw [← hqo, List.length_map]
      clear hqo
      generalize (qOf l done 0).length = ql at *
      generalize va 0 = v1 at *
      generalize vc 0 = v2 at *
      go_wp2
      go_loopw [4, 6, 22] (fun v _ i wr => ∃ j : Nat, j ≤ ql ∧ i = .int .i64 j ∧ wr.ownsRow w1.heap.size 3 1 v (nI (qf.take j)).length ((nI (qf.take j)).map (Value.int .i64)) ∧ Below w1.heap.size w1 wr) (fun _ _ i _ => ql - (intOf i).toNat)
      case atStart => exact ⟨0, Nat.zero_le _, rfl, World.ownsRow_nil _ _ _ _, Below.refl _ _⟩
      case round =>
        obtain ⟨j, hj, rfl, hown, hnx⟩ := hrel
        have hsz := hnx.size
        have h8 := HQ8.out
        by_cases hlt : j < ql
        · obtain ⟨b, off, rfl, _, c0, c1⟩ := hQ0.out j (by rw [hql.out]; exact hlt)
          have d0 := ext_cell hnx c0
          have d1 := ext_cell hnx c1
          have HT := HFS.out j hlt
          have HT2 : Hid (nI (qf.take (j + 1)) = nI (qf.take j) ++ [(qi.getD j (0, false)).1]) := HT
          clear c0 c1 HT
          generalize (qi.getD j (0, false)) = pr at *
          obtain ⟨z, z'⟩ := pr
          simp only at d0 d1 HT2
          have hnl : (nI (qf.take j)).length ≤ 8 := by rw [nI_len, List.length_take]; omega
          have j1 : (0 : Int) ≤ (j : Int) := by omega
          have j2 : (j : Int) < (ql : Int) := by omega
          go_wp2_with (first
            | (at_builtin; refine wpList_append_own _ rfl _ _ 22 rfl w1.heap.size 3 i0 (.int .i64 0) 1 8 Try.underlying22 hi hz0 hz1 hz2 rfl (by decide) _ _ _ rfl ((hown.alloc _).alloc _) ⟨wr.heap.size + 1, 0, none⟩ 1 1 [.int .i64 z] rfl rfl (news_at _ _ _ (by simp)) (ints_oneCell .i64 [z]) (by unfold maxLen; omega) (by omega) (by simp; omega) ?_; intro v' w2 hown' hgrow _)
            | go_in)
          have R : w2.ownsRow w1.heap.size 3 1 v' (nI (qf.take (j + 1))).length ((nI (qf.take (j + 1))).map (Value.int .i64)) := by rw [HT2.out, List.map_append, List.length_append]; exact hown'
          have RB := (((hnx.alloc (by omega) _).alloc (by simp; omega) _).grown hgrow (by simp; omega) (fun j hj => (hown.lt j hj).1))
          clear hown' hgrow hown hnx d0 d1
          go_wp2
          go_roundw
          case rel => exact ⟨j + 1, by omega, by go_num, R, RB⟩
          case measure => simp [intOf]; omega
        · have R : Hid (wr.ownsRow w.heap.size 3 1 u4 (nI (quN l done 0)).length ((nI (quN l done 0)).map (Value.int .i64))) := by
            have h := hown
            rw [List.take_of_length_le (by have := hqfl.out; omega)] at h
            rw [HFN.out]
            exact own_low h HBW.out.size
          have RB : Hid (Below w.heap.size w wr) := grow_trans HBW.out hnx
          clear hown hnx
          go_wp2
          go_ret
          exact ⟨_, rfl, R.out, RB.out⟩))

set_option maxRecDepth 100000 in
set_option maxHeartbeats 4000000 in
theorem queue1_ok1 (p q r : Nat) (w : World) (p0 : w.cell? ⟨p, 0, none⟩ = some (.slice la l.length lc)) (q0 : w.cell? ⟨q, 0, none⟩ = some (.slice ba done.length bc)) (r0 : w.cell? ⟨r, 0, none⟩ = some (.int .i64 1)) (hl : IsTxs w la l) (hb : IsBools w ba done) (hE : quE l done 1 = 0) :
    Calls Try.prog 62 #[.pointer (some ⟨p, 0, none⟩), .pointer (some ⟨q, 0, none⟩), .pointer (some ⟨r, 0, none⟩)] w fun e w' => ∃ v, e = .returned v ∧ w'.ownsRow w.heap.size 3 1 v (nI (quN l done 1)).length ((nI (quN l done 1)).map (Value.int .i64)) ∧ Below w.heap.size w w' := by
  obtain ⟨i0, hi, hz0, hz1, hz2⟩ := info_parts Try.info3
  obtain ⟨hC, hd, _⟩ := quE_zero hE
  have hl8 := chkL_small hC
  have HL : Hid (IsTxs w la l) := hl
  have HE : Hid (firstNZ [chkL l, dE l done, keyE 1] = 0) := hE
  have KS : Hid (∀ w', Below w.heap.size w w' → Below w.heap.size w w' ∧ w'.cell? ⟨p, 0, none⟩ = some (.slice la l.length lc) ∧ w'.cell? ⟨q, 0, none⟩ = some (.slice ba done.length bc) ∧ w'.cell? ⟨r, 0, none⟩ = some (.int .i64 1)) := fun w' h => ⟨h, ext_cell h p0, ext_cell h q0, ext_cell h r0⟩
  have C63 : Hid (∀ w', Calls Try.prog 63 #[.slice la l.length lc, .slice ba done.length bc] w' fun e w'' => e = .returned (.int .i64 (dE l done)) ∧ Below w'.heap.size w' w'') := fun w' => doneError_any la ba lc bc l.length done.length w'
  have C65 : Hid (∀ w', Below w.heap.size w w' → Calls Try.prog 65 #[.slice la l.length lc, .slice ba done.length bc] w' fun e w'' => ∃ (va : Nat → Option Addr) (vc : Nat → Nat), e = .returned (.agg #[.slice (va 0) (qOf l done 0).length (vc 0), .slice (va 1) (qOf l done 1).length (vc 1), .slice (va 2) (qOf l done 2).length (vc 2), .slice (va 3) (qOf l done 3).length (vc 3), .slice (va 4) (qOf l done 4).length (vc 4), .slice (va 5) (qOf l done 5).length (vc 5), .slice (va 6) (qOf l done 6).length (vc 6), .slice (va 7) (qOf l done 7).length (vc 7)]) ∧ Hid (∀ k, k < 8 → IsLks w'' (va k) (qI (qOf l done k)) ∧ (qOf l done k).length ≤ vc k) ∧ Below w'.heap.size w' w'') := fun w' h => by
    have h2 := queuesOf_any la lc l ba bc done w' (hl.below h) (hb.below h) hC hd
    have e2 : Value.slice ba l.length bc = Value.slice ba done.length bc := by rw [hd]
    rw [e2] at h2
    exact h2
  have HQ8 : Hid ((qOf l done 1).length ≤ 8) := qOf_len l done hl8 1
  have HIX : Hid (∀ (va : Nat → Option Addr) (vc : Nat → Nat) (w : World), Sem.run Try.prog (Instr.index 108 (.agg #[.slice (va 0) (qOf l done 0).length (vc 0), .slice (va 1) (qOf l done 1).length (vc 1), .slice (va 2) (qOf l done 2).length (vc 2), .slice (va 3) (qOf l done 3).length (vc 3), .slice (va 4) (qOf l done 4).length (vc 4), .slice (va 5) (qOf l done 5).length (vc 5), .slice (va 6) (qOf l done 6).length (vc 6), .slice (va 7) (qOf l done 7).length (vc 7)]) (.int .i64 1)) w = .ok (.slice (va 1) (qOf l done 1).length (vc 1)) w) := fun va vc w => rfl
  clear hl hb hE hC hd
  go_enter Try.func62, Try.ntmps62
  go_wp2_with fail
  go_region_held3 (fun w' => Below w.heap.size w w' ∧ w'.cell? ⟨p, 0, none⟩ = some (.slice la l.length lc) ∧ w'.cell? ⟨q, 0, none⟩ = some (.slice ba done.length bc) ∧ w'.cell? ⟨r, 0, none⟩ = some (.int .i64 1)) ((refine KS.out _ ?_; go_split_ands; repeat (first | assumption | exact Below.refl _ _ | refine grow_drew ?_ | refine grow_alloc ?_ _ | refine grow_trans ?_ (by assumption))))
    (first
      | (go_at_call 63; refine (C63.out _).mono ?_; rintro e wb ⟨rfl, hbb⟩)
      | (go_at_call 64; refine (keyError_any 1 _).mono ?_; rintro e wc ⟨rfl, hbc⟩)
      | (go_at_call 42; refine (orderCheck_any la lc l _ ?_).mono ?_; (refine HL.out.below ?_; go_split_ands; repeat (first | assumption | exact Below.refl _ _ | refine grow_drew ?_ | refine grow_alloc ?_ _ | refine grow_trans ?_ (by assumption))); rintro e wa ⟨rfl, hba⟩)
      | (go_at_call 41; refine (leave_zero [chkL l, dE l done, keyE 1] _ 3 _ (by simp) HE.out ?_).mono ?_; (exact errs3 _ _ _ _ _ (by simp)); rintro e w' ⟨rfl, rfl⟩))
  all_goals (
    go_split_ands
    have BB : Below w.heap.size w (wc.alloc (.cells #[.int .i64 (chkL l), .int .i64 (dE l done), .int .i64 (keyE 1)] 28)) := by assumption
    obtain ⟨_, p1, q1, r1⟩ := KS.out _ BB
    have HB : Hid (Below w.heap.size w (wc.alloc (.cells #[.int .i64 (chkL l), .int .i64 (dE l done), .int .i64 (keyE 1)] 28))) := BB
    clear BB hba hbb hbc C63
    generalize wc.alloc (.cells #[.int .i64 (chkL l), .int .i64 (dE l done), .int .i64 (keyE 1)] 28) = W at *
    have KS2 : Hid (∀ w', Below W.heap.size W w' → Below W.heap.size W w' ∧ w'.cell? ⟨p, 0, none⟩ = some (.slice la l.length lc) ∧ w'.cell? ⟨q, 0, none⟩ = some (.slice ba done.length bc) ∧ w'.cell? ⟨r, 0, none⟩ = some (.int .i64 1)) := fun w' h => ⟨h, ext_cell h p1, ext_cell h q1, ext_cell h r1⟩
    clear KS
    go_upto_region 3 with fail
    go_region_held3 (fun w' => Below W.heap.size W w' ∧ w'.cell? ⟨p, 0, none⟩ = some (.slice la l.length lc) ∧ w'.cell? ⟨q, 0, none⟩ = some (.slice ba done.length bc) ∧ w'.cell? ⟨r, 0, none⟩ = some (.int .i64 1)) ((refine KS2.out _ ?_; go_split_ands; repeat (first | assumption | exact Below.refl _ _ | refine grow_drew ?_ | refine grow_alloc ?_ _ | refine grow_trans ?_ (by assumption))))
      (first
        | (go_at_call 65; refine (C65.out _ ?_).mono ?_; (refine grow_trans HB.out ?_; go_split_ands; assumption); rintro e w1 ⟨va, vc, rfl, hQ, hb1⟩; have hix := HIX.out va vc))
    all_goals (
      go_split_ands
      have B1 : Hid (Below W.heap.size W w1) := by assumption
      have hQ0 : Hid (IsLks w1 (va 1) (qI (qOf l done 1))) := (hQ.out 1 (by omega)).1
      have HBW : Hid (Below w.heap.size w w1) := grow_trans HB.out B1.out
      have HFS : Hid (∀ j, j < (qOf l done 1).length → nI (((qOf l done 1).map Prod.fst).take (j + 1)) = nI (((qOf l done 1).map Prod.fst).take j) ++ [((qI (qOf l done 1)).getD j (0, false)).1]) := fun j hj => quN_step (qOf l done 1) j hj
      have HFN : Hid (quN l done 1 = (qOf l done 1).map Prod.fst) := rfl
      have hql : Hid ((qI (qOf l done 1)).length = (qOf l done 1).length) := qI_len _
      clear KS2 C65 hQ hb1 p1 q1 r1 HB B1
      generalize qI (qOf l done 1) = qi at *
      generalize hqo : (qOf l done 1).map Prod.fst = qf at *
      have hqfl : Hid (qf.length = (qOf l done 1).length) := by
        show _ = _
        rw [← hqo, List.length_map]
      clear hqo
      generalize (qOf l done 1).length = ql at *
      generalize va 1 = v1 at *
      generalize vc 1 = v2 at *
      go_wp2
      go_loopw [4, 6, 22] (fun v _ i wr => ∃ j : Nat, j ≤ ql ∧ i = .int .i64 j ∧ wr.ownsRow w1.heap.size 3 1 v (nI (qf.take j)).length ((nI (qf.take j)).map (Value.int .i64)) ∧ Below w1.heap.size w1 wr) (fun _ _ i _ => ql - (intOf i).toNat)
      case atStart => exact ⟨0, Nat.zero_le _, rfl, World.ownsRow_nil _ _ _ _, Below.refl _ _⟩
      case round =>
        obtain ⟨j, hj, rfl, hown, hnx⟩ := hrel
        have hsz := hnx.size
        have h8 := HQ8.out
        by_cases hlt : j < ql
        · obtain ⟨b, off, rfl, _, c0, c1⟩ := hQ0.out j (by rw [hql.out]; exact hlt)
          have d0 := ext_cell hnx c0
          have d1 := ext_cell hnx c1
          have HT := HFS.out j hlt
          have HT2 : Hid (nI (qf.take (j + 1)) = nI (qf.take j) ++ [(qi.getD j (0, false)).1]) := HT
          clear c0 c1 HT
          generalize (qi.getD j (0, false)) = pr at *
          obtain ⟨z, z'⟩ := pr
          simp only at d0 d1 HT2
          have hnl : (nI (qf.take j)).length ≤ 8 := by rw [nI_len, List.length_take]; omega
          have j1 : (0 : Int) ≤ (j : Int) := by omega
          have j2 : (j : Int) < (ql : Int) := by omega
          go_wp2_with (first
            | (at_builtin; refine wpList_append_own _ rfl _ _ 22 rfl w1.heap.size 3 i0 (.int .i64 0) 1 8 Try.underlying22 hi hz0 hz1 hz2 rfl (by decide) _ _ _ rfl ((hown.alloc _).alloc _) ⟨wr.heap.size + 1, 0, none⟩ 1 1 [.int .i64 z] rfl rfl (news_at _ _ _ (by simp)) (ints_oneCell .i64 [z]) (by unfold maxLen; omega) (by omega) (by simp; omega) ?_; intro v' w2 hown' hgrow _)
            | go_in)
          have R : w2.ownsRow w1.heap.size 3 1 v' (nI (qf.take (j + 1))).length ((nI (qf.take (j + 1))).map (Value.int .i64)) := by rw [HT2.out, List.map_append, List.length_append]; exact hown'
          have RB := (((hnx.alloc (by omega) _).alloc (by simp; omega) _).grown hgrow (by simp; omega) (fun j hj => (hown.lt j hj).1))
          clear hown' hgrow hown hnx d0 d1
          go_wp2
          go_roundw
          case rel => exact ⟨j + 1, by omega, by go_num, R, RB⟩
          case measure => simp [intOf]; omega
        · have R : Hid (wr.ownsRow w.heap.size 3 1 u4 (nI (quN l done 1)).length ((nI (quN l done 1)).map (Value.int .i64))) := by
            have h := hown
            rw [List.take_of_length_le (by have := hqfl.out; omega)] at h
            rw [HFN.out]
            exact own_low h HBW.out.size
          have RB : Hid (Below w.heap.size w wr) := grow_trans HBW.out hnx
          clear hown hnx
          go_wp2
          go_ret
          exact ⟨_, rfl, R.out, RB.out⟩))

set_option maxRecDepth 100000 in
set_option maxHeartbeats 4000000 in
theorem queue1_ok2 (p q r : Nat) (w : World) (p0 : w.cell? ⟨p, 0, none⟩ = some (.slice la l.length lc)) (q0 : w.cell? ⟨q, 0, none⟩ = some (.slice ba done.length bc)) (r0 : w.cell? ⟨r, 0, none⟩ = some (.int .i64 2)) (hl : IsTxs w la l) (hb : IsBools w ba done) (hE : quE l done 2 = 0) :
    Calls Try.prog 62 #[.pointer (some ⟨p, 0, none⟩), .pointer (some ⟨q, 0, none⟩), .pointer (some ⟨r, 0, none⟩)] w fun e w' => ∃ v, e = .returned v ∧ w'.ownsRow w.heap.size 3 1 v (nI (quN l done 2)).length ((nI (quN l done 2)).map (Value.int .i64)) ∧ Below w.heap.size w w' := by
  obtain ⟨i0, hi, hz0, hz1, hz2⟩ := info_parts Try.info3
  obtain ⟨hC, hd, _⟩ := quE_zero hE
  have hl8 := chkL_small hC
  have HL : Hid (IsTxs w la l) := hl
  have HE : Hid (firstNZ [chkL l, dE l done, keyE 2] = 0) := hE
  have KS : Hid (∀ w', Below w.heap.size w w' → Below w.heap.size w w' ∧ w'.cell? ⟨p, 0, none⟩ = some (.slice la l.length lc) ∧ w'.cell? ⟨q, 0, none⟩ = some (.slice ba done.length bc) ∧ w'.cell? ⟨r, 0, none⟩ = some (.int .i64 2)) := fun w' h => ⟨h, ext_cell h p0, ext_cell h q0, ext_cell h r0⟩
  have C63 : Hid (∀ w', Calls Try.prog 63 #[.slice la l.length lc, .slice ba done.length bc] w' fun e w'' => e = .returned (.int .i64 (dE l done)) ∧ Below w'.heap.size w' w'') := fun w' => doneError_any la ba lc bc l.length done.length w'
  have C65 : Hid (∀ w', Below w.heap.size w w' → Calls Try.prog 65 #[.slice la l.length lc, .slice ba done.length bc] w' fun e w'' => ∃ (va : Nat → Option Addr) (vc : Nat → Nat), e = .returned (.agg #[.slice (va 0) (qOf l done 0).length (vc 0), .slice (va 1) (qOf l done 1).length (vc 1), .slice (va 2) (qOf l done 2).length (vc 2), .slice (va 3) (qOf l done 3).length (vc 3), .slice (va 4) (qOf l done 4).length (vc 4), .slice (va 5) (qOf l done 5).length (vc 5), .slice (va 6) (qOf l done 6).length (vc 6), .slice (va 7) (qOf l done 7).length (vc 7)]) ∧ Hid (∀ k, k < 8 → IsLks w'' (va k) (qI (qOf l done k)) ∧ (qOf l done k).length ≤ vc k) ∧ Below w'.heap.size w' w'') := fun w' h => by
    have h2 := queuesOf_any la lc l ba bc done w' (hl.below h) (hb.below h) hC hd
    have e2 : Value.slice ba l.length bc = Value.slice ba done.length bc := by rw [hd]
    rw [e2] at h2
    exact h2
  have HQ8 : Hid ((qOf l done 2).length ≤ 8) := qOf_len l done hl8 2
  have HIX : Hid (∀ (va : Nat → Option Addr) (vc : Nat → Nat) (w : World), Sem.run Try.prog (Instr.index 108 (.agg #[.slice (va 0) (qOf l done 0).length (vc 0), .slice (va 1) (qOf l done 1).length (vc 1), .slice (va 2) (qOf l done 2).length (vc 2), .slice (va 3) (qOf l done 3).length (vc 3), .slice (va 4) (qOf l done 4).length (vc 4), .slice (va 5) (qOf l done 5).length (vc 5), .slice (va 6) (qOf l done 6).length (vc 6), .slice (va 7) (qOf l done 7).length (vc 7)]) (.int .i64 2)) w = .ok (.slice (va 2) (qOf l done 2).length (vc 2)) w) := fun va vc w => rfl
  clear hl hb hE hC hd
  go_enter Try.func62, Try.ntmps62
  go_wp2_with fail
  go_region_held3 (fun w' => Below w.heap.size w w' ∧ w'.cell? ⟨p, 0, none⟩ = some (.slice la l.length lc) ∧ w'.cell? ⟨q, 0, none⟩ = some (.slice ba done.length bc) ∧ w'.cell? ⟨r, 0, none⟩ = some (.int .i64 2)) ((refine KS.out _ ?_; go_split_ands; repeat (first | assumption | exact Below.refl _ _ | refine grow_drew ?_ | refine grow_alloc ?_ _ | refine grow_trans ?_ (by assumption))))
    (first
      | (go_at_call 63; refine (C63.out _).mono ?_; rintro e wb ⟨rfl, hbb⟩)
      | (go_at_call 64; refine (keyError_any 2 _).mono ?_; rintro e wc ⟨rfl, hbc⟩)
      | (go_at_call 42; refine (orderCheck_any la lc l _ ?_).mono ?_; (refine HL.out.below ?_; go_split_ands; repeat (first | assumption | exact Below.refl _ _ | refine grow_drew ?_ | refine grow_alloc ?_ _ | refine grow_trans ?_ (by assumption))); rintro e wa ⟨rfl, hba⟩)
      | (go_at_call 41; refine (leave_zero [chkL l, dE l done, keyE 2] _ 3 _ (by simp) HE.out ?_).mono ?_; (exact errs3 _ _ _ _ _ (by simp)); rintro e w' ⟨rfl, rfl⟩))
  all_goals (
    go_split_ands
    have BB : Below w.heap.size w (wc.alloc (.cells #[.int .i64 (chkL l), .int .i64 (dE l done), .int .i64 (keyE 2)] 28)) := by assumption
    obtain ⟨_, p1, q1, r1⟩ := KS.out _ BB
    have HB : Hid (Below w.heap.size w (wc.alloc (.cells #[.int .i64 (chkL l), .int .i64 (dE l done), .int .i64 (keyE 2)] 28))) := BB
    clear BB hba hbb hbc C63
    generalize wc.alloc (.cells #[.int .i64 (chkL l), .int .i64 (dE l done), .int .i64 (keyE 2)] 28) = W at *
    have KS2 : Hid (∀ w', Below W.heap.size W w' → Below W.heap.size W w' ∧ w'.cell? ⟨p, 0, none⟩ = some (.slice la l.length lc) ∧ w'.cell? ⟨q, 0, none⟩ = some (.slice ba done.length bc) ∧ w'.cell? ⟨r, 0, none⟩ = some (.int .i64 2)) := fun w' h => ⟨h, ext_cell h p1, ext_cell h q1, ext_cell h r1⟩
    clear KS
    go_upto_region 3 with fail
    go_region_held3 (fun w' => Below W.heap.size W w' ∧ w'.cell? ⟨p, 0, none⟩ = some (.slice la l.length lc) ∧ w'.cell? ⟨q, 0, none⟩ = some (.slice ba done.length bc) ∧ w'.cell? ⟨r, 0, none⟩ = some (.int .i64 2)) ((refine KS2.out _ ?_; go_split_ands; repeat (first | assumption | exact Below.refl _ _ | refine grow_drew ?_ | refine grow_alloc ?_ _ | refine grow_trans ?_ (by assumption))))
      (first
        | (go_at_call 65; refine (C65.out _ ?_).mono ?_; (refine grow_trans HB.out ?_; go_split_ands; assumption); rintro e w1 ⟨va, vc, rfl, hQ, hb1⟩; have hix := HIX.out va vc))
    all_goals (
      go_split_ands
      have B1 : Hid (Below W.heap.size W w1) := by assumption
      have hQ0 : Hid (IsLks w1 (va 2) (qI (qOf l done 2))) := (hQ.out 2 (by omega)).1
      have HBW : Hid (Below w.heap.size w w1) := grow_trans HB.out B1.out
      have HFS : Hid (∀ j, j < (qOf l done 2).length → nI (((qOf l done 2).map Prod.fst).take (j + 1)) = nI (((qOf l done 2).map Prod.fst).take j) ++ [((qI (qOf l done 2)).getD j (0, false)).1]) := fun j hj => quN_step (qOf l done 2) j hj
      have HFN : Hid (quN l done 2 = (qOf l done 2).map Prod.fst) := rfl
      have hql : Hid ((qI (qOf l done 2)).length = (qOf l done 2).length) := qI_len _
      clear KS2 C65 hQ hb1 p1 q1 r1 HB B1
      generalize qI (qOf l done 2) = qi at *
      generalize hqo : (qOf l done 2).map Prod.fst = qf at *
      have hqfl : Hid (qf.length = (qOf l done 2).length) := by
        show _ = _
        rw [← hqo, List.length_map]
      clear hqo
      generalize (qOf l done 2).length = ql at *
      generalize va 2 = v1 at *
      generalize vc 2 = v2 at *
      go_wp2
      go_loopw [4, 6, 22] (fun v _ i wr => ∃ j : Nat, j ≤ ql ∧ i = .int .i64 j ∧ wr.ownsRow w1.heap.size 3 1 v (nI (qf.take j)).length ((nI (qf.take j)).map (Value.int .i64)) ∧ Below w1.heap.size w1 wr) (fun _ _ i _ => ql - (intOf i).toNat)
      case atStart => exact ⟨0, Nat.zero_le _, rfl, World.ownsRow_nil _ _ _ _, Below.refl _ _⟩
      case round =>
        obtain ⟨j, hj, rfl, hown, hnx⟩ := hrel
        have hsz := hnx.size
        have h8 := HQ8.out
        by_cases hlt : j < ql
        · obtain ⟨b, off, rfl, _, c0, c1⟩ := hQ0.out j (by rw [hql.out]; exact hlt)
          have d0 := ext_cell hnx c0
          have d1 := ext_cell hnx c1
          have HT := HFS.out j hlt
          have HT2 : Hid (nI (qf.take (j + 1)) = nI (qf.take j) ++ [(qi.getD j (0, false)).1]) := HT
          clear c0 c1 HT
          generalize (qi.getD j (0, false)) = pr at *
          obtain ⟨z, z'⟩ := pr
          simp only at d0 d1 HT2
          have hnl : (nI (qf.take j)).length ≤ 8 := by rw [nI_len, List.length_take]; omega
          have j1 : (0 : Int) ≤ (j : Int) := by omega
          have j2 : (j : Int) < (ql : Int) := by omega
          go_wp2_with (first
            | (at_builtin; refine wpList_append_own _ rfl _ _ 22 rfl w1.heap.size 3 i0 (.int .i64 0) 1 8 Try.underlying22 hi hz0 hz1 hz2 rfl (by decide) _ _ _ rfl ((hown.alloc _).alloc _) ⟨wr.heap.size + 1, 0, none⟩ 1 1 [.int .i64 z] rfl rfl (news_at _ _ _ (by simp)) (ints_oneCell .i64 [z]) (by unfold maxLen; omega) (by omega) (by simp; omega) ?_; intro v' w2 hown' hgrow _)
            | go_in)
          have R : w2.ownsRow w1.heap.size 3 1 v' (nI (qf.take (j + 1))).length ((nI (qf.take (j + 1))).map (Value.int .i64)) := by rw [HT2.out, List.map_append, List.length_append]; exact hown'
          have RB := (((hnx.alloc (by omega) _).alloc (by simp; omega) _).grown hgrow (by simp; omega) (fun j hj => (hown.lt j hj).1))
          clear hown' hgrow hown hnx d0 d1
          go_wp2
          go_roundw
          case rel => exact ⟨j + 1, by omega, by go_num, R, RB⟩
          case measure => simp [intOf]; omega
        · have R : Hid (wr.ownsRow w.heap.size 3 1 u4 (nI (quN l done 2)).length ((nI (quN l done 2)).map (Value.int .i64))) := by
            have h := hown
            rw [List.take_of_length_le (by have := hqfl.out; omega)] at h
            rw [HFN.out]
            exact own_low h HBW.out.size
          have RB : Hid (Below w.heap.size w wr) := grow_trans HBW.out hnx
          clear hown hnx
          go_wp2
          go_ret
          exact ⟨_, rfl, R.out, RB.out⟩))

set_option maxRecDepth 100000 in
set_option maxHeartbeats 4000000 in
theorem queue1_ok3 (p q r : Nat) (w : World) (p0 : w.cell? ⟨p, 0, none⟩ = some (.slice la l.length lc)) (q0 : w.cell? ⟨q, 0, none⟩ = some (.slice ba done.length bc)) (r0 : w.cell? ⟨r, 0, none⟩ = some (.int .i64 3)) (hl : IsTxs w la l) (hb : IsBools w ba done) (hE : quE l done 3 = 0) :
    Calls Try.prog 62 #[.pointer (some ⟨p, 0, none⟩), .pointer (some ⟨q, 0, none⟩), .pointer (some ⟨r, 0, none⟩)] w fun e w' => ∃ v, e = .returned v ∧ w'.ownsRow w.heap.size 3 1 v (nI (quN l done 3)).length ((nI (quN l done 3)).map (Value.int .i64)) ∧ Below w.heap.size w w' := by
  obtain ⟨i0, hi, hz0, hz1, hz2⟩ := info_parts Try.info3
  obtain ⟨hC, hd, _⟩ := quE_zero hE
  have hl8 := chkL_small hC
  have HL : Hid (IsTxs w la l) := hl
  have HE : Hid (firstNZ [chkL l, dE l done, keyE 3] = 0) := hE
  have KS : Hid (∀ w', Below w.heap.size w w' → Below w.heap.size w w' ∧ w'.cell? ⟨p, 0, none⟩ = some (.slice la l.length lc) ∧ w'.cell? ⟨q, 0, none⟩ = some (.slice ba done.length bc) ∧ w'.cell? ⟨r, 0, none⟩ = some (.int .i64 3)) := fun w' h => ⟨h, ext_cell h p0, ext_cell h q0, ext_cell h r0⟩
  have C63 : Hid (∀ w', Calls Try.prog 63 #[.slice la l.length lc, .slice ba done.length bc] w' fun e w'' => e = .returned (.int .i64 (dE l done)) ∧ Below w'.heap.size w' w'') := fun w' => doneError_any la ba lc bc l.length done.length w'
  have C65 : Hid (∀ w', Below w.heap.size w w' → Calls Try.prog 65 #[.slice la l.length lc, .slice ba done.length bc] w' fun e w'' => ∃ (va : Nat → Option Addr) (vc : Nat → Nat), e = .returned (.agg #[.slice (va 0) (qOf l done 0).length (vc 0), .slice (va 1) (qOf l done 1).length (vc 1), .slice (va 2) (qOf l done 2).length (vc 2), .slice (va 3) (qOf l done 3).length (vc 3), .slice (va 4) (qOf l done 4).length (vc 4), .slice (va 5) (qOf l done 5).length (vc 5), .slice (va 6) (qOf l done 6).length (vc 6), .slice (va 7) (qOf l done 7).length (vc 7)]) ∧ Hid (∀ k, k < 8 → IsLks w'' (va k) (qI (qOf l done k)) ∧ (qOf l done k).length ≤ vc k) ∧ Below w'.heap.size w' w'') := fun w' h => by
    have h2 := queuesOf_any la lc l ba bc done w' (hl.below h) (hb.below h) hC hd
    have e2 : Value.slice ba l.length bc = Value.slice ba done.length bc := by rw [hd]
    rw [e2] at h2
    exact h2
  have HQ8 : Hid ((qOf l done 3).length ≤ 8) := qOf_len l done hl8 3
  have HIX : Hid (∀ (va : Nat → Option Addr) (vc : Nat → Nat) (w : World), Sem.run Try.prog (Instr.index 108 (.agg #[.slice (va 0) (qOf l done 0).length (vc 0), .slice (va 1) (qOf l done 1).length (vc 1), .slice (va 2) (qOf l done 2).length (vc 2), .slice (va 3) (qOf l done 3).length (vc 3), .slice (va 4) (qOf l done 4).length (vc 4), .slice (va 5) (qOf l done 5).length (vc 5), .slice (va 6) (qOf l done 6).length (vc 6), .slice (va 7) (qOf l done 7).length (vc 7)]) (.int .i64 3)) w = .ok (.slice (va 3) (qOf l done 3).length (vc 3)) w) := fun va vc w => rfl
  clear hl hb hE hC hd
  go_enter Try.func62, Try.ntmps62
  go_wp2_with fail
  go_region_held3 (fun w' => Below w.heap.size w w' ∧ w'.cell? ⟨p, 0, none⟩ = some (.slice la l.length lc) ∧ w'.cell? ⟨q, 0, none⟩ = some (.slice ba done.length bc) ∧ w'.cell? ⟨r, 0, none⟩ = some (.int .i64 3)) ((refine KS.out _ ?_; go_split_ands; repeat (first | assumption | exact Below.refl _ _ | refine grow_drew ?_ | refine grow_alloc ?_ _ | refine grow_trans ?_ (by assumption))))
    (first
      | (go_at_call 63; refine (C63.out _).mono ?_; rintro e wb ⟨rfl, hbb⟩)
      | (go_at_call 64; refine (keyError_any 3 _).mono ?_; rintro e wc ⟨rfl, hbc⟩)
      | (go_at_call 42; refine (orderCheck_any la lc l _ ?_).mono ?_; (refine HL.out.below ?_; go_split_ands; repeat (first | assumption | exact Below.refl _ _ | refine grow_drew ?_ | refine grow_alloc ?_ _ | refine grow_trans ?_ (by assumption))); rintro e wa ⟨rfl, hba⟩)
      | (go_at_call 41; refine (leave_zero [chkL l, dE l done, keyE 3] _ 3 _ (by simp) HE.out ?_).mono ?_; (exact errs3 _ _ _ _ _ (by simp)); rintro e w' ⟨rfl, rfl⟩))
  all_goals (
    go_split_ands
    have BB : Below w.heap.size w (wc.alloc (.cells #[.int .i64 (chkL l), .int .i64 (dE l done), .int .i64 (keyE 3)] 28)) := by assumption
    obtain ⟨_, p1, q1, r1⟩ := KS.out _ BB
    have HB : Hid (Below w.heap.size w (wc.alloc (.cells #[.int .i64 (chkL l), .int .i64 (dE l done), .int .i64 (keyE 3)] 28))) := BB
    clear BB hba hbb hbc C63
    generalize wc.alloc (.cells #[.int .i64 (chkL l), .int .i64 (dE l done), .int .i64 (keyE 3)] 28) = W at *
    have KS2 : Hid (∀ w', Below W.heap.size W w' → Below W.heap.size W w' ∧ w'.cell? ⟨p, 0, none⟩ = some (.slice la l.length lc) ∧ w'.cell? ⟨q, 0, none⟩ = some (.slice ba done.length bc) ∧ w'.cell? ⟨r, 0, none⟩ = some (.int .i64 3)) := fun w' h => ⟨h, ext_cell h p1, ext_cell h q1, ext_cell h r1⟩
    clear KS
    go_upto_region 3 with fail
    go_region_held3 (fun w' => Below W.heap.size W w' ∧ w'.cell? ⟨p, 0, none⟩ = some (.slice la l.length lc) ∧ w'.cell? ⟨q, 0, none⟩ = some (.slice ba done.length bc) ∧ w'.cell? ⟨r, 0, none⟩ = some (.int .i64 3)) ((refine KS2.out _ ?_; go_split_ands; repeat (first | assumption | exact Below.refl _ _ | refine grow_drew ?_ | refine grow_alloc ?_ _ | refine grow_trans ?_ (by assumption))))
      (first
        | (go_at_call 65; refine (C65.out _ ?_).mono ?_; (refine grow_trans HB.out ?_; go_split_ands; assumption); rintro e w1 ⟨va, vc, rfl, hQ, hb1⟩; have hix := HIX.out va vc))
    all_goals (
      go_split_ands
      have B1 : Hid (Below W.heap.size W w1) := by assumption
      have hQ0 : Hid (IsLks w1 (va 3) (qI (qOf l done 3))) := (hQ.out 3 (by omega)).1
      have HBW : Hid (Below w.heap.size w w1) := grow_trans HB.out B1.out
      have HFS : Hid (∀ j, j < (qOf l done 3).length → nI (((qOf l done 3).map Prod.fst).take (j + 1)) = nI (((qOf l done 3).map Prod.fst).take j) ++ [((qI (qOf l done 3)).getD j (0, false)).1]) := fun j hj => quN_step (qOf l done 3) j hj
      have HFN : Hid (quN l done 3 = (qOf l done 3).map Prod.fst) := rfl
      have hql : Hid ((qI (qOf l done 3)).length = (qOf l done 3).length) := qI_len _
      clear KS2 C65 hQ hb1 p1 q1 r1 HB B1
      generalize qI (qOf l done 3) = qi at *
      generalize hqo : (qOf l done 3).map Prod.fst = qf at *
      have hqfl : Hid (qf.length = (qOf l done 3).length) := by
        show _ = _
        rw [← hqo, List.length_map]
      clear hqo
      generalize (qOf l done 3).length = ql at *
      generalize va 3 = v1 at *
      generalize vc 3 = v2 at *
      go_wp2
      go_loopw [4, 6, 22] (fun v _ i wr => ∃ j : Nat, j ≤ ql ∧ i = .int .i64 j ∧ wr.ownsRow w1.heap.size 3 1 v (nI (qf.take j)).length ((nI (qf.take j)).map (Value.int .i64)) ∧ Below w1.heap.size w1 wr) (fun _ _ i _ => ql - (intOf i).toNat)
      case atStart => exact ⟨0, Nat.zero_le _, rfl, World.ownsRow_nil _ _ _ _, Below.refl _ _⟩
      case round =>
        obtain ⟨j, hj, rfl, hown, hnx⟩ := hrel
        have hsz := hnx.size
        have h8 := HQ8.out
        by_cases hlt : j < ql
        · obtain ⟨b, off, rfl, _, c0, c1⟩ := hQ0.out j (by rw [hql.out]; exact hlt)
          have d0 := ext_cell hnx c0
          have d1 := ext_cell hnx c1
          have HT := HFS.out j hlt
          have HT2 : Hid (nI (qf.take (j + 1)) = nI (qf.take j) ++ [(qi.getD j (0, false)).1]) := HT
          clear c0 c1 HT
          generalize (qi.getD j (0, false)) = pr at *
          obtain ⟨z, z'⟩ := pr
          simp only at d0 d1 HT2
          have hnl : (nI (qf.take j)).length ≤ 8 := by rw [nI_len, List.length_take]; omega
          have j1 : (0 : Int) ≤ (j : Int) := by omega
          have j2 : (j : Int) < (ql : Int) := by omega
          go_wp2_with (first
            | (at_builtin; refine wpList_append_own _ rfl _ _ 22 rfl w1.heap.size 3 i0 (.int .i64 0) 1 8 Try.underlying22 hi hz0 hz1 hz2 rfl (by decide) _ _ _ rfl ((hown.alloc _).alloc _) ⟨wr.heap.size + 1, 0, none⟩ 1 1 [.int .i64 z] rfl rfl (news_at _ _ _ (by simp)) (ints_oneCell .i64 [z]) (by unfold maxLen; omega) (by omega) (by simp; omega) ?_; intro v' w2 hown' hgrow _)
            | go_in)
          have R : w2.ownsRow w1.heap.size 3 1 v' (nI (qf.take (j + 1))).length ((nI (qf.take (j + 1))).map (Value.int .i64)) := by rw [HT2.out, List.map_append, List.length_append]; exact hown'
          have RB := (((hnx.alloc (by omega) _).alloc (by simp; omega) _).grown hgrow (by simp; omega) (fun j hj => (hown.lt j hj).1))
          clear hown' hgrow hown hnx d0 d1
          go_wp2
          go_roundw
          case rel => exact ⟨j + 1, by omega, by go_num, R, RB⟩
          case measure => simp [intOf]; omega
        · have R : Hid (wr.ownsRow w.heap.size 3 1 u4 (nI (quN l done 3)).length ((nI (quN l done 3)).map (Value.int .i64))) := by
            have h := hown
            rw [List.take_of_length_le (by have := hqfl.out; omega)] at h
            rw [HFN.out]
            exact own_low h HBW.out.size
          have RB : Hid (Below w.heap.size w wr) := grow_trans HBW.out hnx
          clear hown hnx
          go_wp2
          go_ret
          exact ⟨_, rfl, R.out, RB.out⟩))

set_option maxRecDepth 100000 in
set_option maxHeartbeats 4000000 in
theorem queue1_ok4 (p q r : Nat) (w : World) (p0 : w.cell? ⟨p, 0, none⟩ = some (.slice la l.length lc)) (q0 : w.cell? ⟨q, 0, none⟩ = some (.slice ba done.length bc)) (r0 : w.cell? ⟨r, 0, none⟩ = some (.int .i64 4)) (hl : IsTxs w la l) (hb : IsBools w ba done) (hE : quE l done 4 = 0) :
    Calls Try.prog 62 #[.pointer (some ⟨p, 0, none⟩), .pointer (some ⟨q, 0, none⟩), .pointer (some ⟨r, 0, none⟩)] w fun e w' => ∃ v, e = .returned v ∧ w'.ownsRow w.heap.size 3 1 v (nI (quN l done 4)).length ((nI (quN l done 4)).map (Value.int .i64)) ∧ Below w.heap.size w w' := by
  obtain ⟨i0, hi, hz0, hz1, hz2⟩ := info_parts Try.info3
  obtain ⟨hC, hd, _⟩ := quE_zero hE
  have hl8 := chkL_small hC
  have HL : Hid (IsTxs w la l) := hl
  have HE : Hid (firstNZ [chkL l, dE l done, keyE 4] = 0) := hE
  have KS : Hid (∀ w', Below w.heap.size w w' → Below w.heap.size w w' ∧ w'.cell? ⟨p, 0, none⟩ = some (.slice la l.length lc) ∧ w'.cell? ⟨q, 0, none⟩ = some (.slice ba done.length bc) ∧ w'.cell? ⟨r, 0, none⟩ = some (.int .i64 4)) := fun w' h => ⟨h, ext_cell h p0, ext_cell h q0, ext_cell h r0⟩
  have C63 : Hid (∀ w', Calls Try.prog 63 #[.slice la l.length lc, .slice ba done.length bc] w' fun e w'' => e = .returned (.int .i64 (dE l done)) ∧ Below w'.heap.size w' w'') := fun w' => doneError_any la ba lc bc l.length done.length w'
  have C65 : Hid (∀ w', Below w.heap.size w w' → Calls Try.prog 65 #[.slice la l.length lc, .slice ba done.length bc] w' fun e w'' => ∃ (va : Nat → Option Addr) (vc : Nat → Nat), e = .returned (.agg #[.slice (va 0) (qOf l done 0).length (vc 0), .slice (va 1) (qOf l done 1).length (vc 1), .slice (va 2) (qOf l done 2).length (vc 2), .slice (va 3) (qOf l done 3).length (vc 3), .slice (va 4) (qOf l done 4).length (vc 4), .slice (va 5) (qOf l done 5).length (vc 5), .slice (va 6) (qOf l done 6).length (vc 6), .slice (va 7) (qOf l done 7).length (vc 7)]) ∧ Hid (∀ k, k < 8 → IsLks w'' (va k) (qI (qOf l done k)) ∧ (qOf l done k).length ≤ vc k) ∧ Below w'.heap.size w' w'') := fun w' h => by
    have h2 := queuesOf_any la lc l ba bc done w' (hl.below h) (hb.below h) hC hd
    have e2 : Value.slice ba l.length bc = Value.slice ba done.length bc := by rw [hd]
    rw [e2] at h2
    exact h2
  have HQ8 : Hid ((qOf l done 4).length ≤ 8) := qOf_len l done hl8 4
  have HIX : Hid (∀ (va : Nat → Option Addr) (vc : Nat → Nat) (w : World), Sem.run Try.prog (Instr.index 108 (.agg #[.slice (va 0) (qOf l done 0).length (vc 0), .slice (va 1) (qOf l done 1).length (vc 1), .slice (va 2) (qOf l done 2).length (vc 2), .slice (va 3) (qOf l done 3).length (vc 3), .slice (va 4) (qOf l done 4).length (vc 4), .slice (va 5) (qOf l done 5).length (vc 5), .slice (va 6) (qOf l done 6).length (vc 6), .slice (va 7) (qOf l done 7).length (vc 7)]) (.int .i64 4)) w = .ok (.slice (va 4) (qOf l done 4).length (vc 4)) w) := fun va vc w => rfl
  clear hl hb hE hC hd
  go_enter Try.func62, Try.ntmps62
  go_wp2_with fail
  go_region_held3 (fun w' => Below w.heap.size w w' ∧ w'.cell? ⟨p, 0, none⟩ = some (.slice la l.length lc) ∧ w'.cell? ⟨q, 0, none⟩ = some (.slice ba done.length bc) ∧ w'.cell? ⟨r, 0, none⟩ = some (.int .i64 4)) ((refine KS.out _ ?_; go_split_ands; repeat (first | assumption | exact Below.refl _ _ | refine grow_drew ?_ | refine grow_alloc ?_ _ | refine grow_trans ?_ (by assumption))))
    (first
      | (go_at_call 63; refine (C63.out _).mono ?_; rintro e wb ⟨rfl, hbb⟩)
      | (go_at_call 64; refine (keyError_any 4 _).mono ?_; rintro e wc ⟨rfl, hbc⟩)
      | (go_at_call 42; refine (orderCheck_any la lc l _ ?_).mono ?_; (refine HL.out.below ?_; go_split_ands; repeat (first | assumption | exact Below.refl _ _ | refine grow_drew ?_ | refine grow_alloc ?_ _ | refine grow_trans ?_ (by assumption))); rintro e wa ⟨rfl, hba⟩)
      | (go_at_call 41; refine (leave_zero [chkL l, dE l done, keyE 4] _ 3 _ (by simp) HE.out ?_).mono ?_; (exact errs3 _ _ _ _ _ (by simp)); rintro e w' ⟨rfl, rfl⟩))
  all_goals (
    go_split_ands
    have BB : Below w.heap.size w (wc.alloc (.cells #[.int .i64 (chkL l), .int .i64 (dE l done), .int .i64 (keyE 4)] 28)) := by assumption
    obtain ⟨_, p1, q1, r1⟩ := KS.out _ BB
    have HB : Hid (Below w.heap.size w (wc.alloc (.cells #[.int .i64 (chkL l), .int .i64 (dE l done), .int .i64 (keyE 4)] 28))) := BB
    clear BB hba hbb hbc C63
    generalize wc.alloc (.cells #[.int .i64 (chkL l), .int .i64 (dE l done), .int .i64 (keyE 4)] 28) = W at *
    have KS2 : Hid (∀ w', Below W.heap.size W w' → Below W.heap.size W w' ∧ w'.cell? ⟨p, 0, none⟩ = some (.slice la l.length lc) ∧ w'.cell? ⟨q, 0, none⟩ = some (.slice ba done.length bc) ∧ w'.cell? ⟨r, 0, none⟩ = some (.int .i64 4)) := fun w' h => ⟨h, ext_cell h p1, ext_cell h q1, ext_cell h r1⟩
    clear KS
    go_upto_region 3 with fail
    go_region_held3 (fun w' => Below W.heap.size W w' ∧ w'.cell? ⟨p, 0, none⟩ = some (.slice la l.length lc) ∧ w'.cell? ⟨q, 0, none⟩ = some (.slice ba done.length bc) ∧ w'.cell? ⟨r, 0, none⟩ = some (.int .i64 4)) ((refine KS2.out _ ?_; go_split_ands; repeat (first | assumption | exact Below.refl _ _ | refine grow_drew ?_ | refine grow_alloc ?_ _ | refine grow_trans ?_ (by assumption))))
      (first
        | (go_at_call 65; refine (C65.out _ ?_).mono ?_; (refine grow_trans HB.out ?_; go_split_ands; assumption); rintro e w1 ⟨va, vc, rfl, hQ, hb1⟩; have hix := HIX.out va vc))
    all_goals (
      go_split_ands
      have B1 : Hid (Below W.heap.size W w1) := by assumption
      have hQ0 : Hid (IsLks w1 (va 4) (qI (qOf l done 4))) := (hQ.out 4 (by omega)).1
      have HBW : Hid (Below w.heap.size w w1) := grow_trans HB.out B1.out
      have HFS : Hid (∀ j, j < (qOf l done 4).length → nI (((qOf l done 4).map Prod.fst).take (j + 1)) = nI (((qOf l done 4).map Prod.fst).take j) ++ [((qI (qOf l done 4)).getD j (0, false)).1]) := fun j hj => quN_step (qOf l done 4) j hj
      have HFN : Hid (quN l done 4 = (qOf l done 4).map Prod.fst) := rfl
      have hql : Hid ((qI (qOf l done 4)).length = (qOf l done 4).length) := qI_len _
      clear KS2 C65 hQ hb1 p1 q1 r1 HB B1
      generalize qI (qOf l done 4) = qi at *
      generalize hqo : (qOf l done 4).map Prod.fst = qf at *
      have hqfl : Hid (qf.length = (qOf l done 4).length) := by
        show _ = _
        rw [← hqo, List.length_map]
      clear hqo
      generalize (qOf l done 4).length = ql at *
      generalize va 4 = v1 at *
      generalize vc 4 = v2 at *
      go_wp2
      go_loopw [4, 6, 22] (fun v _ i wr => ∃ j : Nat, j ≤ ql ∧ i = .int .i64 j ∧ wr.ownsRow w1.heap.size 3 1 v (nI (qf.take j)).length ((nI (qf.take j)).map (Value.int .i64)) ∧ Below w1.heap.size w1 wr) (fun _ _ i _ => ql - (intOf i).toNat)
      case atStart => exact ⟨0, Nat.zero_le _, rfl, World.ownsRow_nil _ _ _ _, Below.refl _ _⟩
      case round =>
        obtain ⟨j, hj, rfl, hown, hnx⟩ := hrel
        have hsz := hnx.size
        have h8 := HQ8.out
        by_cases hlt : j < ql
        · obtain ⟨b, off, rfl, _, c0, c1⟩ := hQ0.out j (by rw [hql.out]; exact hlt)
          have d0 := ext_cell hnx c0
          have d1 := ext_cell hnx c1
          have HT := HFS.out j hlt
          have HT2 : Hid (nI (qf.take (j + 1)) = nI (qf.take j) ++ [(qi.getD j (0, false)).1]) := HT
          clear c0 c1 HT
          generalize (qi.getD j (0, false)) = pr at *
          obtain ⟨z, z'⟩ := pr
          simp only at d0 d1 HT2
          have hnl : (nI (qf.take j)).length ≤ 8 := by rw [nI_len, List.length_take]; omega
          have j1 : (0 : Int) ≤ (j : Int) := by omega
          have j2 : (j : Int) < (ql : Int) := by omega
          go_wp2_with (first
            | (at_builtin; refine wpList_append_own _ rfl _ _ 22 rfl w1.heap.size 3 i0 (.int .i64 0) 1 8 Try.underlying22 hi hz0 hz1 hz2 rfl (by decide) _ _ _ rfl ((hown.alloc _).alloc _) ⟨wr.heap.size + 1, 0, none⟩ 1 1 [.int .i64 z] rfl rfl (news_at _ _ _ (by simp)) (ints_oneCell .i64 [z]) (by unfold maxLen; omega) (by omega) (by simp; omega) ?_; intro v' w2 hown' hgrow _)
            | go_in)
          have R : w2.ownsRow w1.heap.size 3 1 v' (nI (qf.take (j + 1))).length ((nI (qf.take (j + 1))).map (Value.int .i64)) := by rw [HT2.out, List.map_append, List.length_append]; exact hown'
          have RB := (((hnx.alloc (by omega) _).alloc (by simp; omega) _).grown hgrow (by simp; omega) (fun j hj => (hown.lt j hj).1))
          clear hown' hgrow hown hnx d0 d1
          go_wp2
          go_roundw
          case rel => exact ⟨j + 1, by omega, by go_num, R, RB⟩
          case measure => simp [intOf]; omega
        · have R : Hid (wr.ownsRow w.heap.size 3 1 u4 (nI (quN l done 4)).length ((nI (quN l done 4)).map (Value.int .i64))) := by
            have h := hown
            rw [List.take_of_length_le (by have := hqfl.out; omega)] at h
            rw [HFN.out]
            exact own_low h HBW.out.size
          have RB : Hid (Below w.heap.size w wr) := grow_trans HBW.out hnx
          clear hown hnx
          go_wp2
          go_ret
          exact ⟨_, rfl, R.out, RB.out⟩))

set_option maxRecDepth 100000 in
set_option maxHeartbeats 4000000 in
theorem queue1_ok5 (p q r : Nat) (w : World) (p0 : w.cell? ⟨p, 0, none⟩ = some (.slice la l.length lc)) (q0 : w.cell? ⟨q, 0, none⟩ = some (.slice ba done.length bc)) (r0 : w.cell? ⟨r, 0, none⟩ = some (.int .i64 5)) (hl : IsTxs w la l) (hb : IsBools w ba done) (hE : quE l done 5 = 0) :
    Calls Try.prog 62 #[.pointer (some ⟨p, 0, none⟩), .pointer (some ⟨q, 0, none⟩), .pointer (some ⟨r, 0, none⟩)] w fun e w' => ∃ v, e = .returned v ∧ w'.ownsRow w.heap.size 3 1 v (nI (quN l done 5)).length ((nI (quN l done 5)).map (Value.int .i64)) ∧ Below w.heap.size w w' := by
  obtain ⟨i0, hi, hz0, hz1, hz2⟩ := info_parts Try.info3
  obtain ⟨hC, hd, _⟩ := quE_zero hE
  have hl8 := chkL_small hC
  have HL : Hid (IsTxs w la l) := hl
  have HE : Hid (firstNZ [chkL l, dE l done, keyE 5] = 0) := hE
  have KS : Hid (∀ w', Below w.heap.size w w' → Below w.heap.size w w' ∧ w'.cell? ⟨p, 0, none⟩ = some (.slice la l.length lc) ∧ w'.cell? ⟨q, 0, none⟩ = some (.slice ba done.length bc) ∧ w'.cell? ⟨r, 0, none⟩ = some (.int .i64 5)) := fun w' h => ⟨h, ext_cell h p0, ext_cell h q0, ext_cell h r0⟩
  have C63 : Hid (∀ w', Calls Try.prog 63 #[.slice la l.length lc, .slice ba done.length bc] w' fun e w'' => e = .returned (.int .i64 (dE l done)) ∧ Below w'.heap.size w' w'') := fun w' => doneError_any la ba lc bc l.length done.length w'
  have C65 : Hid (∀ w', Below w.heap.size w w' → Calls Try.prog 65 #[.slice la l.length lc, .slice ba done.length bc] w' fun e w'' => ∃ (va : Nat → Option Addr) (vc : Nat → Nat), e = .returned (.agg #[.slice (va 0) (qOf l done 0).length (vc 0), .slice (va 1) (qOf l done 1).length (vc 1), .slice (va 2) (qOf l done 2).length (vc 2), .slice (va 3) (qOf l done 3).length (vc 3), .slice (va 4) (qOf l done 4).length (vc 4), .slice (va 5) (qOf l done 5).length (vc 5), .slice (va 6) (qOf l done 6).length (vc 6), .slice (va 7) (qOf l done 7).length (vc 7)]) ∧ Hid (∀ k, k < 8 → IsLks w'' (va k) (qI (qOf l done k)) ∧ (qOf l done k).length ≤ vc k) ∧ Below w'.heap.size w' w'') := fun w' h => by
    have h2 := queuesOf_any la lc l ba bc done w' (hl.below h) (hb.below h) hC hd
    have e2 : Value.slice ba l.length bc = Value.slice ba done.length bc := by rw [hd]
    rw [e2] at h2
    exact h2
  have HQ8 : Hid ((qOf l done 5).length ≤ 8) := qOf_len l done hl8 5
  have HIX : Hid (∀ (va : Nat → Option Addr) (vc : Nat → Nat) (w : World), Sem.run Try.prog (Instr.index 108 (.agg #[.slice (va 0) (qOf l done 0).length (vc 0), .slice (va 1) (qOf l done 1).length (vc 1), .slice (va 2) (qOf l done 2).length (vc 2), .slice (va 3) (qOf l done 3).length (vc 3), .slice (va 4) (qOf l done 4).length (vc 4), .slice (va 5) (qOf l done 5).length (vc 5), .slice (va 6) (qOf l done 6).length (vc 6), .slice (va 7) (qOf l done 7).length (vc 7)]) (.int .i64 5)) w = .ok (.slice (va 5) (qOf l done 5).length (vc 5)) w) := fun va vc w => rfl
  clear hl hb hE hC hd
  go_enter Try.func62, Try.ntmps62
  go_wp2_with fail
  go_region_held3 (fun w' => Below w.heap.size w w' ∧ w'.cell? ⟨p, 0, none⟩ = some (.slice la l.length lc) ∧ w'.cell? ⟨q, 0, none⟩ = some (.slice ba done.length bc) ∧ w'.cell? ⟨r, 0, none⟩ = some (.int .i64 5)) ((refine KS.out _ ?_; go_split_ands; repeat (first | assumption | exact Below.refl _ _ | refine grow_drew ?_ | refine grow_alloc ?_ _ | refine grow_trans ?_ (by assumption))))
    (first
      | (go_at_call 63; refine (C63.out _).mono ?_; rintro e wb ⟨rfl, hbb⟩)
      | (go_at_call 64; refine (keyError_any 5 _).mono ?_; rintro e wc ⟨rfl, hbc⟩)
      | (go_at_call 42; refine (orderCheck_any la lc l _ ?_).mono ?_; (refine HL.out.below ?_; go_split_ands; repeat (first | assumption | exact Below.refl _ _ | refine grow_drew ?_ | refine grow_alloc ?_ _ | refine grow_trans ?_ (by assumption))); rintro e wa ⟨rfl, hba⟩)
      | (go_at_call 41; refine (leave_zero [chkL l, dE l done, keyE 5] _ 3 _ (by simp) HE.out ?_).mono ?_; (exact errs3 _ _ _ _ _ (by simp)); rintro e w' ⟨rfl, rfl⟩))
  all_goals (
    go_split_ands
    have BB : Below w.heap.size w (wc.alloc (.cells #[.int .i64 (chkL l), .int .i64 (dE l done), .int .i64 (keyE 5)] 28)) := by assumption
    obtain ⟨_, p1, q1, r1⟩ := KS.out _ BB
    have HB : Hid (Below w.heap.size w (wc.alloc (.cells #[.int .i64 (chkL l), .int .i64 (dE l done), .int .i64 (keyE 5)] 28))) := BB
    clear BB hba hbb hbc C63
    generalize wc.alloc (.cells #[.int .i64 (chkL l), .int .i64 (dE l done), .int .i64 (keyE 5)] 28) = W at *
    have KS2 : Hid (∀ w', Below W.heap.size W w' → Below W.heap.size W w' ∧ w'.cell? ⟨p, 0, none⟩ = some (.slice la l.length lc) ∧ w'.cell? ⟨q, 0, none⟩ = some (.slice ba done.length bc) ∧ w'.cell? ⟨r, 0, none⟩ = some (.int .i64 5)) := fun w' h => ⟨h, ext_cell h p1, ext_cell h q1, ext_cell h r1⟩
    clear KS
    go_upto_region 3 with fail
    go_region_held3 (fun w' => Below W.heap.size W w' ∧ w'.cell? ⟨p, 0, none⟩ = some (.slice la l.length lc) ∧ w'.cell? ⟨q, 0, none⟩ = some (.slice ba done.length bc) ∧ w'.cell? ⟨r, 0, none⟩ = some (.int .i64 5)) ((refine KS2.out _ ?_; go_split_ands; repeat (first | assumption | exact Below.refl _ _ | refine grow_drew ?_ | refine grow_alloc ?_ _ | refine grow_trans ?_ (by assumption))))
      (first
        | (go_at_call 65; refine (C65.out _ ?_).mono ?_; (refine grow_trans HB.out ?_; go_split_ands; assumption); rintro e w1 ⟨va, vc, rfl, hQ, hb1⟩; have hix := HIX.out va vc))
    all_goals (
      go_split_ands
      have B1 : Hid (Below W.heap.size W w1) := by assumption
      have hQ0 : Hid (IsLks w1 (va 5) (qI (qOf l done 5))) := (hQ.out 5 (by omega)).1
      have HBW : Hid (Below w.heap.size w w1) := grow_trans HB.out B1.out
      have HFS : Hid (∀ j, j < (qOf l done 5).length → nI (((qOf l done 5).map Prod.fst).take (j + 1)) = nI (((qOf l done 5).map Prod.fst).take j) ++ [((qI (qOf l done 5)).getD j (0, false)).1]) := fun j hj => quN_step (qOf l done 5) j hj
      have HFN : Hid (quN l done 5 = (qOf l done 5).map Prod.fst) := rfl
      have hql : Hid ((qI (qOf l done 5)).length = (qOf l done 5).length) := qI_len _
      clear KS2 C65 hQ hb1 p1 q1 r1 HB B1
      generalize qI (qOf l done 5) = qi at *
      generalize hqo : (qOf l done 5).map Prod.fst = qf at *
      have hqfl : Hid (qf.length = (qOf l done 5).length) := by
        show _ = _
        rw [← hqo, List.length_map]
      clear hqo
      generalize (qOf l done 5).length = ql at *
      generalize va 5 = v1 at *
      generalize vc 5 = v2 at *
      go_wp2
      go_loopw [4, 6, 22] (fun v _ i wr => ∃ j : Nat, j ≤ ql ∧ i = .int .i64 j ∧ wr.ownsRow w1.heap.size 3 1 v (nI (qf.take j)).length ((nI (qf.take j)).map (Value.int .i64)) ∧ Below w1.heap.size w1 wr) (fun _ _ i _ => ql - (intOf i).toNat)
      case atStart => exact ⟨0, Nat.zero_le _, rfl, World.ownsRow_nil _ _ _ _, Below.refl _ _⟩
      case round =>
        obtain ⟨j, hj, rfl, hown, hnx⟩ := hrel
        have hsz := hnx.size
        have h8 := HQ8.out
        by_cases hlt : j < ql
        · obtain ⟨b, off, rfl, _, c0, c1⟩ := hQ0.out j (by rw [hql.out]; exact hlt)
          have d0 := ext_cell hnx c0
          have d1 := ext_cell hnx c1
          have HT := HFS.out j hlt
          have HT2 : Hid (nI (qf.take (j + 1)) = nI (qf.take j) ++ [(qi.getD j (0, false)).1]) := HT
          clear c0 c1 HT
          generalize (qi.getD j (0, false)) = pr at *
          obtain ⟨z, z'⟩ := pr
          simp only at d0 d1 HT2
          have hnl : (nI (qf.take j)).length ≤ 8 := by rw [nI_len, List.length_take]; omega
          have j1 : (0 : Int) ≤ (j : Int) := by omega
          have j2 : (j : Int) < (ql : Int) := by omega
          go_wp2_with (first
            | (at_builtin; refine wpList_append_own _ rfl _ _ 22 rfl w1.heap.size 3 i0 (.int .i64 0) 1 8 Try.underlying22 hi hz0 hz1 hz2 rfl (by decide) _ _ _ rfl ((hown.alloc _).alloc _) ⟨wr.heap.size + 1, 0, none⟩ 1 1 [.int .i64 z] rfl rfl (news_at _ _ _ (by simp)) (ints_oneCell .i64 [z]) (by unfold maxLen; omega) (by omega) (by simp; omega) ?_; intro v' w2 hown' hgrow _)
            | go_in)
          have R : w2.ownsRow w1.heap.size 3 1 v' (nI (qf.take (j + 1))).length ((nI (qf.take (j + 1))).map (Value.int .i64)) := by rw [HT2.out, List.map_append, List.length_append]; exact hown'
          have RB := (((hnx.alloc (by omega) _).alloc (by simp; omega) _).grown hgrow (by simp; omega) (fun j hj => (hown.lt j hj).1))
          clear hown' hgrow hown hnx d0 d1
          go_wp2
          go_roundw
          case rel => exact ⟨j + 1, by omega, by go_num, R, RB⟩
          case measure => simp [intOf]; omega
        · have R : Hid (wr.ownsRow w.heap.size 3 1 u4 (nI (quN l done 5)).length ((nI (quN l done 5)).map (Value.int .i64))) := by
            have h := hown
            rw [List.take_of_length_le (by have := hqfl.out; omega)] at h
            rw [HFN.out]
            exact own_low h HBW.out.size
          have RB : Hid (Below w.heap.size w wr) := grow_trans HBW.out hnx
          clear hown hnx
          go_wp2
          go_ret
          exact ⟨_, rfl, R.out, RB.out⟩))

set_option maxRecDepth 100000 in
set_option maxHeartbeats 4000000 in
theorem queue1_ok6 (p q r : Nat) (w : World) (p0 : w.cell? ⟨p, 0, none⟩ = some (.slice la l.length lc)) (q0 : w.cell? ⟨q, 0, none⟩ = some (.slice ba done.length bc)) (r0 : w.cell? ⟨r, 0, none⟩ = some (.int .i64 6)) (hl : IsTxs w la l) (hb : IsBools w ba done) (hE : quE l done 6 = 0) :
    Calls Try.prog 62 #[.pointer (some ⟨p, 0, none⟩), .pointer (some ⟨q, 0, none⟩), .pointer (some ⟨r, 0, none⟩)] w fun e w' => ∃ v, e = .returned v ∧ w'.ownsRow w.heap.size 3 1 v (nI (quN l done 6)).length ((nI (quN l done 6)).map (Value.int .i64)) ∧ Below w.heap.size w w' := by
  obtain ⟨i0, hi, hz0, hz1, hz2⟩ := info_parts Try.info3
  obtain ⟨hC, hd, _⟩ := quE_zero hE
  have hl8 := chkL_small hC
  have HL : Hid (IsTxs w la l) := hl
  have HE : Hid (firstNZ [chkL l, dE l done, keyE 6] = 0) := hE
  have KS : Hid (∀ w', Below w.heap.size w w' → Below w.heap.size w w' ∧ w'.cell? ⟨p, 0, none⟩ = some (.slice la l.length lc) ∧ w'.cell? ⟨q, 0, none⟩ = some (.slice ba done.length bc) ∧ w'.cell? ⟨r, 0, none⟩ = some (.int .i64 6)) := fun w' h => ⟨h, ext_cell h p0, ext_cell h q0, ext_cell h r0⟩
  have C63 : Hid (∀ w', Calls Try.prog 63 #[.slice la l.length lc, .slice ba done.length bc] w' fun e w'' => e = .returned (.int .i64 (dE l done)) ∧ Below w'.heap.size w' w'') := fun w' => doneError_any la ba lc bc l.length done.length w'
  have C65 : Hid (∀ w', Below w.heap.size w w' → Calls Try.prog 65 #[.slice la l.length lc, .slice ba done.length bc] w' fun e w'' => ∃ (va : Nat → Option Addr) (vc : Nat → Nat), e = .returned (.agg #[.slice (va 0) (qOf l done 0).length (vc 0), .slice (va 1) (qOf l done 1).length (vc 1), .slice (va 2) (qOf l done 2).length (vc 2), .slice (va 3) (qOf l done 3).length (vc 3), .slice (va 4) (qOf l done 4).length (vc 4), .slice (va 5) (qOf l done 5).length (vc 5), .slice (va 6) (qOf l done 6).length (vc 6), .slice (va 7) (qOf l done 7).length (vc 7)]) ∧ Hid (∀ k, k < 8 → IsLks w'' (va k) (qI (qOf l done k)) ∧ (qOf l done k).length ≤ vc k) ∧ Below w'.heap.size w' w'') := fun w' h => by
    have h2 := queuesOf_any la lc l ba bc done w' (hl.below h) (hb.below h) hC hd
    have e2 : Value.slice ba l.length bc = Value.slice ba done.length bc := by rw [hd]
    rw [e2] at h2
    exact h2
  have HQ8 : Hid ((qOf l done 6).length ≤ 8) := qOf_len l done hl8 6
  have HIX : Hid (∀ (va : Nat → Option Addr) (vc : Nat → Nat) (w : World), Sem.run Try.prog (Instr.index 108 (.agg #[.slice (va 0) (qOf l done 0).length (vc 0), .slice (va 1) (qOf l done 1).length (vc 1), .slice (va 2) (qOf l done 2).length (vc 2), .slice (va 3) (qOf l done 3).length (vc 3), .slice (va 4) (qOf l done 4).length (vc 4), .slice (va 5) (qOf l done 5).length (vc 5), .slice (va 6) (qOf l done 6).length (vc 6), .slice (va 7) (qOf l done 7).length (vc 7)]) (.int .i64 6)) w = .ok (.slice (va 6) (qOf l done 6).length (vc 6)) w) := fun va vc w => rfl
  clear hl hb hE hC hd
  go_enter Try.func62, Try.ntmps62
  go_wp2_with fail
  go_region_held3 (fun w' => Below w.heap.size w w' ∧ w'.cell? ⟨p, 0, none⟩ = some (.slice la l.length lc) ∧ w'.cell? ⟨q, 0, none⟩ = some (.slice ba done.length bc) ∧ w'.cell? ⟨r, 0, none⟩ = some (.int .i64 6)) ((refine KS.out _ ?_; go_split_ands; repeat (first | assumption | exact Below.refl _ _ | refine grow_drew ?_ | refine grow_alloc ?_ _ | refine grow_trans ?_ (by assumption))))
    (first
      | (go_at_call 63; refine (C63.out _).mono ?_; rintro e wb ⟨rfl, hbb⟩)
      | (go_at_call 64; refine (keyError_any 6 _).mono ?_; rintro e wc ⟨rfl, hbc⟩)
      | (go_at_call 42; refine (orderCheck_any la lc l _ ?_).mono ?_; (refine HL.out.below ?_; go_split_ands; repeat (first | assumption | exact Below.refl _ _ | refine grow_drew ?_ | refine grow_alloc ?_ _ | refine grow_trans ?_ (by assumption))); rintro e wa ⟨rfl, hba⟩)
      | (go_at_call 41; refine (leave_zero [chkL l, dE l done, keyE 6] _ 3 _ (by simp) HE.out ?_).mono ?_; (exact errs3 _ _ _ _ _ (by simp)); rintro e w' ⟨rfl, rfl⟩))
  all_goals (
    go_split_ands
    have BB : Below w.heap.size w (wc.alloc (.cells #[.int .i64 (chkL l), .int .i64 (dE l done), .int .i64 (keyE 6)] 28)) := by assumption
    obtain ⟨_, p1, q1, r1⟩ := KS.out _ BB
    have HB : Hid (Below w.heap.size w (wc.alloc (.cells #[.int .i64 (chkL l), .int .i64 (dE l done), .int .i64 (keyE 6)] 28))) := BB
    clear BB hba hbb hbc C63
    generalize wc.alloc (.cells #[.int .i64 (chkL l), .int .i64 (dE l done), .int .i64 (keyE 6)] 28) = W at *
    have KS2 : Hid (∀ w', Below W.heap.size W w' → Below W.heap.size W w' ∧ w'.cell? ⟨p, 0, none⟩ = some (.slice la l.length lc) ∧ w'.cell? ⟨q, 0, none⟩ = some (.slice ba done.length bc) ∧ w'.cell? ⟨r, 0, none⟩ = some (.int .i64 6)) := fun w' h => ⟨h, ext_cell h p1, ext_cell h q1, ext_cell h r1⟩
    clear KS
    go_upto_region 3 with fail
    go_region_held3 (fun w' => Below W.heap.size W w' ∧ w'.cell? ⟨p, 0, none⟩ = some (.slice la l.length lc) ∧ w'.cell? ⟨q, 0, none⟩ = some (.slice ba done.length bc) ∧ w'.cell? ⟨r, 0, none⟩ = some (.int .i64 6)) ((refine KS2.out _ ?_; go_split_ands; repeat (first | assumption | exact Below.refl _ _ | refine grow_drew ?_ | refine grow_alloc ?_ _ | refine grow_trans ?_ (by assumption))))
      (first
        | (go_at_call 65; refine (C65.out _ ?_).mono ?_; (refine grow_trans HB.out ?_; go_split_ands; assumption); rintro e w1 ⟨va, vc, rfl, hQ, hb1⟩; have hix := HIX.out va vc))
    all_goals (
      go_split_ands
      have B1 : Hid (Below W.heap.size W w1) := by assumption
      have hQ0 : Hid (IsLks w1 (va 6) (qI (qOf l done 6))) := (hQ.out 6 (by omega)).1
      have HBW : Hid (Below w.heap.size w w1) := grow_trans HB.out B1.out
      have HFS : Hid (∀ j, j < (qOf l done 6).length → nI (((qOf l done 6).map Prod.fst).take (j + 1)) = nI (((qOf l done 6).map Prod.fst).take j) ++ [((qI (qOf l done 6)).getD j (0, false)).1]) := fun j hj => quN_step (qOf l done 6) j hj
      have HFN : Hid (quN l done 6 = (qOf l done 6).map Prod.fst) := rfl
      have hql : Hid ((qI (qOf l done 6)).length = (qOf l done 6).length) := qI_len _
      clear KS2 C65 hQ hb1 p1 q1 r1 HB B1
      generalize qI (qOf l done 6) = qi at *
      generalize hqo : (qOf l done 6).map Prod.fst = qf at *
      have hqfl : Hid (qf.length = (qOf l done 6).length) := by
        show _ = _
        rw [← hqo, List.length_map]
      clear hqo
      generalize (qOf l done 6).length = ql at *
      generalize va 6 = v1 at *
      generalize vc 6 = v2 at *
      go_wp2
      go_loopw [4, 6, 22] (fun v _ i wr => ∃ j : Nat, j ≤ ql ∧ i = .int .i64 j ∧ wr.ownsRow w1.heap.size 3 1 v (nI (qf.take j)).length ((nI (qf.take j)).map (Value.int .i64)) ∧ Below w1.heap.size w1 wr) (fun _ _ i _ => ql - (intOf i).toNat)
      case atStart => exact ⟨0, Nat.zero_le _, rfl, World.ownsRow_nil _ _ _ _, Below.refl _ _⟩
      case round =>
        obtain ⟨j, hj, rfl, hown, hnx⟩ := hrel
        have hsz := hnx.size
        have h8 := HQ8.out
        by_cases hlt : j < ql
        · obtain ⟨b, off, rfl, _, c0, c1⟩ := hQ0.out j (by rw [hql.out]; exact hlt)
          have d0 := ext_cell hnx c0
          have d1 := ext_cell hnx c1
          have HT := HFS.out j hlt
          have HT2 : Hid (nI (qf.take (j + 1)) = nI (qf.take j) ++ [(qi.getD j (0, false)).1]) := HT
          clear c0 c1 HT
          generalize (qi.getD j (0, false)) = pr at *
          obtain ⟨z, z'⟩ := pr
          simp only at d0 d1 HT2
          have hnl : (nI (qf.take j)).length ≤ 8 := by rw [nI_len, List.length_take]; omega
          have j1 : (0 : Int) ≤ (j : Int) := by omega
          have j2 : (j : Int) < (ql : Int) := by omega
          go_wp2_with (first
            | (at_builtin; refine wpList_append_own _ rfl _ _ 22 rfl w1.heap.size 3 i0 (.int .i64 0) 1 8 Try.underlying22 hi hz0 hz1 hz2 rfl (by decide) _ _ _ rfl ((hown.alloc _).alloc _) ⟨wr.heap.size + 1, 0, none⟩ 1 1 [.int .i64 z] rfl rfl (news_at _ _ _ (by simp)) (ints_oneCell .i64 [z]) (by unfold maxLen; omega) (by omega) (by simp; omega) ?_; intro v' w2 hown' hgrow _)
            | go_in)
          have R : w2.ownsRow w1.heap.size 3 1 v' (nI (qf.take (j + 1))).length ((nI (qf.take (j + 1))).map (Value.int .i64)) := by rw [HT2.out, List.map_append, List.length_append]; exact hown'
          have RB := (((hnx.alloc (by omega) _).alloc (by simp; omega) _).grown hgrow (by simp; omega) (fun j hj => (hown.lt j hj).1))
          clear hown' hgrow hown hnx d0 d1
          go_wp2
          go_roundw
          case rel => exact ⟨j + 1, by omega, by go_num, R, RB⟩
          case measure => simp [intOf]; omega
        · have R : Hid (wr.ownsRow w.heap.size 3 1 u4 (nI (quN l done 6)).length ((nI (quN l done 6)).map (Value.int .i64))) := by
            have h := hown
            rw [List.take_of_length_le (by have := hqfl.out; omega)] at h
            rw [HFN.out]
            exact own_low h HBW.out.size
          have RB : Hid (Below w.heap.size w wr) := grow_trans HBW.out hnx
          clear hown hnx
          go_wp2
          go_ret
          exact ⟨_, rfl, R.out, RB.out⟩))

set_option maxRecDepth 100000 in
set_option maxHeartbeats 4000000 in
theorem queue1_ok7 (p q r : Nat) (w : World) (p0 : w.cell? ⟨p, 0, none⟩ = some (.slice la l.length lc)) (q0 : w.cell? ⟨q, 0, none⟩ = some (.slice ba done.length bc)) (r0 : w.cell? ⟨r, 0, none⟩ = some (.int .i64 7)) (hl : IsTxs w la l) (hb : IsBools w ba done) (hE : quE l done 7 = 0) :
    Calls Try.prog 62 #[.pointer (some ⟨p, 0, none⟩), .pointer (some ⟨q, 0, none⟩), .pointer (some ⟨r, 0, none⟩)] w fun e w' => ∃ v, e = .returned v ∧ w'.ownsRow w.heap.size 3 1 v (nI (quN l done 7)).length ((nI (quN l done 7)).map (Value.int .i64)) ∧ Below w.heap.size w w' := by
  obtain ⟨i0, hi, hz0, hz1, hz2⟩ := info_parts Try.info3
  obtain ⟨hC, hd, _⟩ := quE_zero hE
  have hl8 := chkL_small hC
  have HL : Hid (IsTxs w la l) := hl
  have HE : Hid (firstNZ [chkL l, dE l done, keyE 7] = 0) := hE
  have KS : Hid (∀ w', Below w.heap.size w w' → Below w.heap.size w w' ∧ w'.cell? ⟨p, 0, none⟩ = some (.slice la l.length lc) ∧ w'.cell? ⟨q, 0, none⟩ = some (.slice ba done.length bc) ∧ w'.cell? ⟨r, 0, none⟩ = some (.int .i64 7)) := fun w' h => ⟨h, ext_cell h p0, ext_cell h q0, ext_cell h r0⟩
  have C63 : Hid (∀ w', Calls Try.prog 63 #[.slice la l.length lc, .slice ba done.length bc] w' fun e w'' => e = .returned (.int .i64 (dE l done)) ∧ Below w'.heap.size w' w'') := fun w' => doneError_any la ba lc bc l.length done.length w'
  have C65 : Hid (∀ w', Below w.heap.size w w' → Calls Try.prog 65 #[.slice la l.length lc, .slice ba done.length bc] w' fun e w'' => ∃ (va : Nat → Option Addr) (vc : Nat → Nat), e = .returned (.agg #[.slice (va 0) (qOf l done 0).length (vc 0), .slice (va 1) (qOf l done 1).length (vc 1), .slice (va 2) (qOf l done 2).length (vc 2), .slice (va 3) (qOf l done 3).length (vc 3), .slice (va 4) (qOf l done 4).length (vc 4), .slice (va 5) (qOf l done 5).length (vc 5), .slice (va 6) (qOf l done 6).length (vc 6), .slice (va 7) (qOf l done 7).length (vc 7)]) ∧ Hid (∀ k, k < 8 → IsLks w'' (va k) (qI (qOf l done k)) ∧ (qOf l done k).length ≤ vc k) ∧ Below w'.heap.size w' w'') := fun w' h => by
    have h2 := queuesOf_any la lc l ba bc done w' (hl.below h) (hb.below h) hC hd
    have e2 : Value.slice ba l.length bc = Value.slice ba done.length bc := by rw [hd]
    rw [e2] at h2
    exact h2
  have HQ8 : Hid ((qOf l done 7).length ≤ 8) := qOf_len l done hl8 7
  have HIX : Hid (∀ (va : Nat → Option Addr) (vc : Nat → Nat) (w : World), Sem.run Try.prog (Instr.index 108 (.agg #[.slice (va 0) (qOf l done 0).length (vc 0), .slice (va 1) (qOf l done 1).length (vc 1), .slice (va 2) (qOf l done 2).length (vc 2), .slice (va 3) (qOf l done 3).length (vc 3), .slice (va 4) (qOf l done 4).length (vc 4), .slice (va 5) (qOf l done 5).length (vc 5), .slice (va 6) (qOf l done 6).length (vc 6), .slice (va 7) (qOf l done 7).length (vc 7)]) (.int .i64 7)) w = .ok (.slice (va 7) (qOf l done 7).length (vc 7)) w) := fun va vc w => rfl
  clear hl hb hE hC hd
  go_enter Try.func62, Try.ntmps62
  go_wp2_with fail
  go_region_held3 (fun w' => Below w.heap.size w w' ∧ w'.cell? ⟨p, 0, none⟩ = some (.slice la l.length lc) ∧ w'.cell? ⟨q, 0, none⟩ = some (.slice ba done.length bc) ∧ w'.cell? ⟨r, 0, none⟩ = some (.int .i64 7)) ((refine KS.out _ ?_; go_split_ands; repeat (first | assumption | exact Below.refl _ _ | refine grow_drew ?_ | refine grow_alloc ?_ _ | refine grow_trans ?_ (by assumption))))
    (first
      | (go_at_call 63; refine (C63.out _).mono ?_; rintro e wb ⟨rfl, hbb⟩)
      | (go_at_call 64; refine (keyError_any 7 _).mono ?_; rintro e wc ⟨rfl, hbc⟩)
      | (go_at_call 42; refine (orderCheck_any la lc l _ ?_).mono ?_; (refine HL.out.below ?_; go_split_ands; repeat (first | assumption | exact Below.refl _ _ | refine grow_drew ?_ | refine grow_alloc ?_ _ | refine grow_trans ?_ (by assumption))); rintro e wa ⟨rfl, hba⟩)
      | (go_at_call 41; refine (leave_zero [chkL l, dE l done, keyE 7] _ 3 _ (by simp) HE.out ?_).mono ?_; (exact errs3 _ _ _ _ _ (by simp)); rintro e w' ⟨rfl, rfl⟩))
  all_goals (
    go_split_ands
    have BB : Below w.heap.size w (wc.alloc (.cells #[.int .i64 (chkL l), .int .i64 (dE l done), .int .i64 (keyE 7)] 28)) := by assumption
    obtain ⟨_, p1, q1, r1⟩ := KS.out _ BB
    have HB : Hid (Below w.heap.size w (wc.alloc (.cells #[.int .i64 (chkL l), .int .i64 (dE l done), .int .i64 (keyE 7)] 28))) := BB
    clear BB hba hbb hbc C63
    generalize wc.alloc (.cells #[.int .i64 (chkL l), .int .i64 (dE l done), .int .i64 (keyE 7)] 28) = W at *
    have KS2 : Hid (∀ w', Below W.heap.size W w' → Below W.heap.size W w' ∧ w'.cell? ⟨p, 0, none⟩ = some (.slice la l.length lc) ∧ w'.cell? ⟨q, 0, none⟩ = some (.slice ba done.length bc) ∧ w'.cell? ⟨r, 0, none⟩ = some (.int .i64 7)) := fun w' h => ⟨h, ext_cell h p1, ext_cell h q1, ext_cell h r1⟩
    clear KS
    go_upto_region 3 with fail
    go_region_held3 (fun w' => Below W.heap.size W w' ∧ w'.cell? ⟨p, 0, none⟩ = some (.slice la l.length lc) ∧ w'.cell? ⟨q, 0, none⟩ = some (.slice ba done.length bc) ∧ w'.cell? ⟨r, 0, none⟩ = some (.int .i64 7)) ((refine KS2.out _ ?_; go_split_ands; repeat (first | assumption | exact Below.refl _ _ | refine grow_drew ?_ | refine grow_alloc ?_ _ | refine grow_trans ?_ (by assumption))))
      (first
        | (go_at_call 65; refine (C65.out _ ?_).mono ?_; (refine grow_trans HB.out ?_; go_split_ands; assumption); rintro e w1 ⟨va, vc, rfl, hQ, hb1⟩; have hix := HIX.out va vc))
    all_goals (
      go_split_ands
      have B1 : Hid (Below W.heap.size W w1) := by assumption
      have hQ0 : Hid (IsLks w1 (va 7) (qI (qOf l done 7))) := (hQ.out 7 (by omega)).1
      have HBW : Hid (Below w.heap.size w w1) := grow_trans HB.out B1.out
      have HFS : Hid (∀ j, j < (qOf l done 7).length → nI (((qOf l done 7).map Prod.fst).take (j + 1)) = nI (((qOf l done 7).map Prod.fst).take j) ++ [((qI (qOf l done 7)).getD j (0, false)).1]) := fun j hj => quN_step (qOf l done 7) j hj
      have HFN : Hid (quN l done 7 = (qOf l done 7).map Prod.fst) := rfl
      have hql : Hid ((qI (qOf l done 7)).length = (qOf l done 7).length) := qI_len _
      clear KS2 C65 hQ hb1 p1 q1 r1 HB B1
      generalize qI (qOf l done 7) = qi at *
      generalize hqo : (qOf l done 7).map Prod.fst = qf at *
      have hqfl : Hid (qf.length = (qOf l done 7).length) := by
        show _ = _
        rw [← hqo, List.length_map]
      clear hqo
      generalize (qOf l done 7).length = ql at *
      generalize va 7 = v1 at *
      generalize vc 7 = v2 at *
      go_wp2
      go_loopw [4, 6, 22] (fun v _ i wr => ∃ j : Nat, j ≤ ql ∧ i = .int .i64 j ∧ wr.ownsRow w1.heap.size 3 1 v (nI (qf.take j)).length ((nI (qf.take j)).map (Value.int .i64)) ∧ Below w1.heap.size w1 wr) (fun _ _ i _ => ql - (intOf i).toNat)
      case atStart => exact ⟨0, Nat.zero_le _, rfl, World.ownsRow_nil _ _ _ _, Below.refl _ _⟩
      case round =>
        obtain ⟨j, hj, rfl, hown, hnx⟩ := hrel
        have hsz := hnx.size
        have h8 := HQ8.out
        by_cases hlt : j < ql
        · obtain ⟨b, off, rfl, _, c0, c1⟩ := hQ0.out j (by rw [hql.out]; exact hlt)
          have d0 := ext_cell hnx c0
          have d1 := ext_cell hnx c1
          have HT := HFS.out j hlt
          have HT2 : Hid (nI (qf.take (j + 1)) = nI (qf.take j) ++ [(qi.getD j (0, false)).1]) := HT
          clear c0 c1 HT
          generalize (qi.getD j (0, false)) = pr at *
          obtain ⟨z, z'⟩ := pr
          simp only at d0 d1 HT2
          have hnl : (nI (qf.take j)).length ≤ 8 := by rw [nI_len, List.length_take]; omega
          have j1 : (0 : Int) ≤ (j : Int) := by omega
          have j2 : (j : Int) < (ql : Int) := by omega
          go_wp2_with (first
            | (at_builtin; refine wpList_append_own _ rfl _ _ 22 rfl w1.heap.size 3 i0 (.int .i64 0) 1 8 Try.underlying22 hi hz0 hz1 hz2 rfl (by decide) _ _ _ rfl ((hown.alloc _).alloc _) ⟨wr.heap.size + 1, 0, none⟩ 1 1 [.int .i64 z] rfl rfl (news_at _ _ _ (by simp)) (ints_oneCell .i64 [z]) (by unfold maxLen; omega) (by omega) (by simp; omega) ?_; intro v' w2 hown' hgrow _)
            | go_in)
          have R : w2.ownsRow w1.heap.size 3 1 v' (nI (qf.take (j + 1))).length ((nI (qf.take (j + 1))).map (Value.int .i64)) := by rw [HT2.out, List.map_append, List.length_append]; exact hown'
          have RB := (((hnx.alloc (by omega) _).alloc (by simp; omega) _).grown hgrow (by simp; omega) (fun j hj => (hown.lt j hj).1))
          clear hown' hgrow hown hnx d0 d1
          go_wp2
          go_roundw
          case rel => exact ⟨j + 1, by omega, by go_num, R, RB⟩
          case measure => simp [intOf]; omega
        · have R : Hid (wr.ownsRow w.heap.size 3 1 u4 (nI (quN l done 7)).length ((nI (quN l done 7)).map (Value.int .i64))) := by
            have h := hown
            rw [List.take_of_length_le (by have := hqfl.out; omega)] at h
            rw [HFN.out]
            exact own_low h HBW.out.size
          have RB : Hid (Below w.heap.size w wr) := grow_trans HBW.out hnx
          clear hown hnx
          go_wp2
          go_ret
          exact ⟨_, rfl, R.out, RB.out⟩))

set_option maxRecDepth 100000 in
set_option maxHeartbeats 1000000 in
theorem queue_by (key : Int) (k : Nat) (x : Int) (Q : Option Addr → World → Prop) (w : World)
    (h : Calls Try.prog 61 #[.func (.func 62) #[] #[.pointer (some ⟨w.heap.size, 0, none⟩), .pointer (some ⟨w.heap.size + 1, 0, none⟩), .pointer (some ⟨w.heap.size + 2, 0, none⟩)]] (((w.alloc (.cells #[.slice la l.length lc] 27)).alloc (.cells #[.slice ba done.length bc] 55)).alloc (.cells #[.int .i64 key] 3)) fun e w' => ∃ a c, e = .returned (.tuple #[.slice a k c, .int .i64 x]) ∧ Q a w' ∧ Below w.heap.size w w') :
    Calls Try.prog 25 #[.slice la l.length lc, .slice ba done.length bc, .int .i64 key] w fun e w' => ∃ a c, e = .returned (.tuple #[.slice a k c, .int .i64 x]) ∧ Q a w' ∧ Below w.heap.size w w' := by
  have hmf : ∀ (fn : Fn) (first cap : Array Value) (w : World), (Instr.makeFunc fn first cap).run Try.prog w = .ok (.func fn first cap) w := fun _ _ _ _ => rfl
  have H : Hid (Calls Try.prog 61 #[.func (.func 62) #[] #[.pointer (some ⟨w.heap.size, 0, none⟩), .pointer (some ⟨w.heap.size + 1, 0, none⟩), .pointer (some ⟨w.heap.size + 2, 0, none⟩)]] (((w.alloc (.cells #[.slice la l.length lc] 27)).alloc (.cells #[.slice ba done.length bc] 55)).alloc (.cells #[.int .i64 key] 3)) fun e w' => ∃ a c, e = .returned (.tuple #[.slice a k c, .int .i64 x]) ∧ Q a w' ∧ Below w.heap.size w w') := h
  clear h
  go_enter Try.func25, Try.ntmps25
  go_wp2_with fail
  refine H.out.mono ?_
  clear H
  rintro e w1 ⟨a, c, rfl, hq, hb⟩
  have hB : Hid (Below w.heap.size w w1) := hb
  have hQ : Hid (Q a w1) := hq
  clear hb hq
  go_wp2
  go_ret2
  exact ⟨a, c, rfl, hQ.out, hB.out⟩

set_option maxRecDepth 100000 in
theorem queue_any (key : Int) (w : World) (hl : IsTxs w la l) (hb : IsBools w ba done) :
    Calls Try.prog 25 #[.slice la l.length lc, .slice ba done.length bc, .int .i64 key] w fun e w' => ∃ a c, e = .returned (.tuple #[.slice a (nI (quL l done key)).length c, .int .i64 (quE l done key)]) ∧ IsInts w' a (nI (quL l done key)) ∧ Below w.heap.size w w' := by
  have g1 : Below w.heap.size w (((w.alloc (.cells #[.slice la l.length lc] 27)).alloc (.cells #[.slice ba done.length bc] 55)).alloc (.cells #[.int .i64 key] 3)) := grow_alloc (grow_alloc (grow_alloc (Below.refl _ _) _) _) _
  refine queue_by la lc l ba bc done key _ _ (fun a w' => IsInts w' a (nI (quL l done key))) w ?_
  have p : ((((w.alloc (.cells #[.slice la l.length lc] 27)).alloc (.cells #[.slice ba done.length bc] 55)).alloc (.cells #[.int .i64 key] 3)).alloc (.cells #[.int .i64 0] 28)).cell? ⟨w.heap.size, 0, none⟩ = some (.slice la l.length lc) := by
    rw [World.cell?_alloc_lt _ _ _ (by simp; omega), World.cell?_alloc_lt _ _ _ (by simp; omega), World.cell?_alloc_lt _ _ _ (by simp)]; simp
  have q : ((((w.alloc (.cells #[.slice la l.length lc] 27)).alloc (.cells #[.slice ba done.length bc] 55)).alloc (.cells #[.int .i64 key] 3)).alloc (.cells #[.int .i64 0] 28)).cell? ⟨w.heap.size + 1, 0, none⟩ = some (.slice ba done.length bc) := by
    rw [World.cell?_alloc_lt _ _ _ (by simp), World.cell?_alloc_lt _ _ _ (by simp)]; simp
  have r : ((((w.alloc (.cells #[.slice la l.length lc] 27)).alloc (.cells #[.slice ba done.length bc] 55)).alloc (.cells #[.int .i64 key] 3)).alloc (.cells #[.int .i64 0] 28)).cell? ⟨w.heap.size + 2, 0, none⟩ = some (.int .i64 key) := by
    rw [World.cell?_alloc_lt _ _ _ (by simp)]; exact at_new _ _ 3 _ 0 _ (by simp) rfl
  generalize (((w.alloc (.cells #[.slice la l.length lc] 27)).alloc (.cells #[.slice ba done.length bc] 55)).alloc (.cells #[.int .i64 key] 3)) = W at *
  have hl' : IsTxs (W.alloc (.cells #[.int .i64 0] 28)) la l := hl.below (grow_alloc g1 _)
  have hb' : IsBools (W.alloc (.cells #[.int .i64 0] 28)) ba done := hb.below (grow_alloc g1 _)
  by_cases he : quE l done key = 0
  · have e1 : quL l done key = quN l done key.toNat := if_pos he
    rw [e1, he]
    have main : ∀ (h1 : Calls Try.prog 62 #[.pointer (some ⟨w.heap.size, 0, none⟩), .pointer (some ⟨w.heap.size + 1, 0, none⟩), .pointer (some ⟨w.heap.size + 2, 0, none⟩)] (W.alloc (.cells #[.int .i64 0] 28)) fun e w' => ∃ v, e = .returned v ∧ w'.ownsRow (W.alloc (.cells #[.int .i64 0] 28)).heap.size 3 1 v (nI (quN l done key.toNat)).length ((nI (quN l done key.toNat)).map (Value.int .i64)) ∧ Below (W.alloc (.cells #[.int .i64 0] 28)).heap.size (W.alloc (.cells #[.int .i64 0] 28)) w'), Calls Try.prog 61 #[.func (.func 62) #[] #[.pointer (some ⟨w.heap.size, 0, none⟩), .pointer (some ⟨w.heap.size + 1, 0, none⟩), .pointer (some ⟨w.heap.size + 2, 0, none⟩)]] W fun e w' => ∃ a c, e = .returned (.tuple #[.slice a (nI (quN l done key.toNat)).length c, .int .i64 0]) ∧ IsInts w' a (nI (quN l done key.toNat)) ∧ Below w.heap.size w w' := fun h1 => by
      refine (caughtIn_ret 62 _ (fun _ => rfl) (fun v w' => w'.ownsRow (W.heap.size + 1) 3 1 v (nI (quN l done key.toNat)).length ((nI (quN l done key.toNat)).map (Value.int .i64))) W ?_ (h1.mono ?_)).mono ?_
      · intro v w' ho
        exact own_kept ho (grown_one w' W.heap.size 0 _) (fun b hv e => by have := (ho.lt b hv).1; injection e with e; omega)
      · rintro e w' ⟨v, rfl, ho, hb⟩
        exact ⟨v, rfl, by simpa using ho, hb.mono (by simp)⟩
      · rintro e w' ⟨v, rfl, ho, hb⟩
        obtain ⟨a, c, rfl, h⟩ := ints_of_owns ho
        exact ⟨a, c, rfl, h, grow_trans g1 hb⟩
    obtain ⟨_, _, k0, k8⟩ := quE_zero he
    have hk : key = 0 ∨ key = 1 ∨ key = 2 ∨ key = 3 ∨ key = 4 ∨ key = 5 ∨ key = 6 ∨ key = 7 := by omega
    rcases hk with rfl | rfl | rfl | rfl | rfl | rfl | rfl | rfl
    · exact main (queue1_ok0 la lc l ba bc done _ _ _ _ p q r hl' hb' he)
    · exact main (queue1_ok1 la lc l ba bc done _ _ _ _ p q r hl' hb' he)
    · exact main (queue1_ok2 la lc l ba bc done _ _ _ _ p q r hl' hb' he)
    · exact main (queue1_ok3 la lc l ba bc done _ _ _ _ p q r hl' hb' he)
    · exact main (queue1_ok4 la lc l ba bc done _ _ _ _ p q r hl' hb' he)
    · exact main (queue1_ok5 la lc l ba bc done _ _ _ _ p q r hl' hb' he)
    · exact main (queue1_ok6 la lc l ba bc done _ _ _ _ p q r hl' hb' he)
    · exact main (queue1_ok7 la lc l ba bc done _ _ _ _ p q r hl' hb' he)
  · have e1 : quL l done key = [] := if_neg he
    rw [e1]
    refine (caughtIn_pan 62 _ (fun _ => rfl) (quE l done key) W ((queue1_pan la lc l ba bc done key _ _ _ _ p q r hl' he).mono ?_)).mono ?_
    · rintro e w' ⟨rfl, hb⟩
      exact ⟨rfl, hb.mono (by simp)⟩
    · rintro e w' ⟨rfl, hb⟩
      exact ⟨none, 0, rfl, fun i hi => absurd hi (by simp [nI]), grow_trans g1 hb⟩

end Go.Proofs.Ytikolifbljnokaa
