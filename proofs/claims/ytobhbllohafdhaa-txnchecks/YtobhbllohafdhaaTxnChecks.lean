/-
  Proved: for every transaction the law TxnChecks returns true: txn.Check and txn.Locks answer just what the document says, errors too; the transaction reads afterwards as it read before.
  Conditions: none.
-/
import Derived.Test.YtobhbllohafdhaaTxnN
import Derived.WalkKit
import Derived.WalkSpells
import Derived.WalkLawsBesides
import Derived.ProofKit
import Derived.OpenShut
import Derived.ChangeOld
import Derived.Deep.Slices
import Derived.Deep.Strs
import Derived.Deep.RegionHeld3
import Derived.BigQuiet
import Derived.Lib.SmallJoins
namespace Go.Proofs.Ytobhbllohafdhaa
open Go.ChangeShapes Go.WideShapes Go.ChangeAt Go.RowKit Go.Deep


theorem at_of_ints {w : World} {a : Option Addr} {zs : List Int} (h : IsInts w a zs) : IsAt 0 w.heap.size w a zs := fun i hi => by
  obtain ⟨b, off, ha, hb, hc⟩ := h i hi
  exact ⟨b, off, ha, Nat.zero_le _, hb, hc⟩

variable (ra ga sa : Option Addr) (rc gc sc : Nat) (rs : List Int) (gs : List Gd) (ss : List St) (za : Option Addr) (zc : Nat) (zs : List Int)

set_option maxRecDepth 100000 in
set_option maxHeartbeats 2000000 in
theorem txnChecks_ok (w : World) (ht : IsTx w ra ga sa rs gs ss) (hC : chkTx rs gs ss = 0) :
    Calls Try.prog 6 #[.agg #[.slice ra rs.length rc, .slice ga gs.length gc, .slice sa ss.length sc]] w fun e w' => e = .returned (.bool true) ∧ Below w.heap.size w w' := by
  have HT : Hid (IsTx w ra ga sa rs gs ss) := ht
  have eL : Hid (lksOf rs gs ss = (lkTo rs (keysOf ss) 8)) := if_pos hC
  have e5 : Hid (chkTx rs gs ss = 0) := hC
  have hll := lkTo_len rs (keysOf ss) 8
  clear ht hC
  go_enter Try.func6, Try.ntmps6
  go_wp2_with fail
  refine (locks_any ra ga sa rc gc sc rs gs ss _ (HT.out.below (grow_alloc (Below.refl _ _) _))).mono ?_
  rintro e w1 ⟨la, lc, rfl, hla, hb1⟩
  rw [eL.out, e5.out]
  rw [eL.out] at hla
  have x0 : w1.cell? ⟨w.heap.size, 0, none⟩ = some (.slice ra rs.length rc) := ext_cell hb1 (by simp)
  have x1 : w1.cell? ⟨w.heap.size, 1, none⟩ = some (.slice ga gs.length gc) := ext_cell hb1 (by simp)
  have x2 : w1.cell? ⟨w.heap.size, 2, none⟩ = some (.slice sa ss.length sc) := ext_cell hb1 (by simp)
  have B1 : Below w.heap.size w w1 := grow_trans (grow_alloc (Below.refl _ _) _) hb1
  clear hb1
  go_wp2_with fail
  refine (checkTxn_any ra ga sa rc gc sc rs gs ss _ (HT.out.below B1)).mono ?_
  rintro e w2 ⟨rfl, hb2⟩
  have q0 := ext_cell hb2 x0
  have q1 := ext_cell hb2 x1
  have q2 := ext_cell hb2 x2
  have hl2 := hla.below hb2
  have B2 := grow_trans B1 hb2
  clear x0 x1 x2 hla B1 hb2
  rw [e5.out]
  go_wp2_with fail
  refine (locksOf_any ra ga sa rc gc sc rs gs ss _ (HT.out.below B2)).mono ?_
  rintro e W ⟨wa, wc, rfl, hwa, hb3⟩
  have t0 := ext_cell hb3 q0
  have t1 := ext_cell hb3 q1
  have t2 := ext_cell hb3 q2
  have HLA : Hid (IsLks W la (lkTo rs (keysOf ss) 8)) := hl2.below hb3
  have HWA : Hid (IsLks W wa (lkTo rs (keysOf ss) 8)) := hwa
  have B3 : Hid (Below w.heap.size w W) := grow_trans B2 hb3
  clear q0 q1 q2 hl2 hwa B2 hb3
  go_wp2_with fail
  go_loopw [7] (fun i wr => ∃ k : Nat, k ≤ (lkTo rs (keysOf ss) 8).length ∧ i = .int .i64 k ∧ Below W.heap.size W wr) (fun i _ => (lkTo rs (keysOf ss) 8).length - (intOf i).toNat)
  case atStart => exact ⟨0, Nat.zero_le _, rfl, Below.refl _ _⟩
  case round =>
    obtain ⟨k, hk, rfl, hnx⟩ := hrel
    by_cases hlt : k < (lkTo rs (keysOf ss) 8).length
    · obtain ⟨b, off, hae, _, a0, a1⟩ := HLA.out k hlt
      obtain ⟨b', off', hae', _, a0', a1'⟩ := HWA.out k hlt
      subst hae
      subst hae'
      have c0 := ext_cell hnx a0
      have c1 := ext_cell hnx a1
      have c0' := ext_cell hnx a0'
      have c1' := ext_cell hnx a1'
      have HX : Hid (Below W.heap.size W wr) := hnx
      generalize (lkTo rs (keysOf ss) 8).getD k (0, false) = p at *
      obtain ⟨px, py⟩ := p
      simp only at c0 c1 c0' c1'
      have i1 : (0 : Int) ≤ (k : Int) := by omega
      have i2 : (k : Int) < ((lkTo rs (keysOf ss) 8).length : Int) := by omega
      clear a0 a1 a0' a1' hnx t0 t1 t2
      go_wp2_with fail
      go_quiet (fail)
      go_wp2
      go_roundw
      case rel => exact ⟨k + 1, by omega, by go_num, below_drewN HX.out _⟩
      case measure => simp [intOf]; omega
    · have r0 := ext_cell hnx t0
      have r1 := ext_cell hnx t1
      have r2 := ext_cell hnx t2
      have B4 := grow_trans B3.out hnx
      clear t0 t1 t2 hnx
      go_wp2_with fail
      refine (txnBegun_any _).mono ?_
      rintro e w5 ⟨rfl, hb5⟩
      have s0 := ext_cell hb5 r0
      have s1 := ext_cell hb5 r1
      have s2 := ext_cell hb5 r2
      have B5 := grow_trans B4 hb5
      clear r0 r1 r2 B4 hb5
      go_wp2_with fail
      refine (txnCheck_any ra ga sa rc gc sc rs gs ss _ (HT.out.below B5)).mono ?_
      rintro e w6 ⟨rfl, hb6⟩
      have B6 := grow_trans B5 hb6
      clear s0 s1 s2 B5 hb6
      rw [e5.out]
      go_wp2
      go_ret
      exact ⟨by simp, B6⟩

set_option maxRecDepth 100000 in
set_option maxHeartbeats 2000000 in
theorem txnChecks_bad (w : World) (ht : IsTx w ra ga sa rs gs ss) (hC : ¬ chkTx rs gs ss = 0) :
    Calls Try.prog 6 #[.agg #[.slice ra rs.length rc, .slice ga gs.length gc, .slice sa ss.length sc]] w fun e w' => e = .returned (.bool true) ∧ Below w.heap.size w w' := by
  have HT : Hid (IsTx w ra ga sa rs gs ss) := ht
  have eL : Hid (lksOf rs gs ss = ([] : List (Int × Bool))) := if_neg hC
  have hcb : (chkTx rs gs ss == 0) = false := by simpa using hC
  clear ht hC
  go_enter Try.func6, Try.ntmps6
  go_wp2_with fail
  refine (locks_any ra ga sa rc gc sc rs gs ss _ (HT.out.below (grow_alloc (Below.refl _ _) _))).mono ?_
  rintro e w1 ⟨la, lc, rfl, hla, hb1⟩
  rw [eL.out]
  rw [eL.out] at hla
  have x0 : w1.cell? ⟨w.heap.size, 0, none⟩ = some (.slice ra rs.length rc) := ext_cell hb1 (by simp)
  have x1 : w1.cell? ⟨w.heap.size, 1, none⟩ = some (.slice ga gs.length gc) := ext_cell hb1 (by simp)
  have x2 : w1.cell? ⟨w.heap.size, 2, none⟩ = some (.slice sa ss.length sc) := ext_cell hb1 (by simp)
  have B1 : Below w.heap.size w w1 := grow_trans (grow_alloc (Below.refl _ _) _) hb1
  clear hb1
  go_wp2_with fail
  refine (checkTxn_any ra ga sa rc gc sc rs gs ss _ (HT.out.below B1)).mono ?_
  rintro e w2 ⟨rfl, hb2⟩
  have q0 := ext_cell hb2 x0
  have q1 := ext_cell hb2 x1
  have q2 := ext_cell hb2 x2
  have hl2 := hla.below hb2
  have B2 := grow_trans B1 hb2
  clear x0 x1 x2 hla B1 hb2
  obtain ⟨W, hWe⟩ : ∃ X, X = w2 := ⟨w2, rfl⟩
  subst hWe
  have t0 := q0
  have t1 := q1
  have t2 := q2
  have B3 : Hid (Below w.heap.size w W) := B2
  clear q0 q1 q2 hl2 B2
  go_wp2_with fail
  go_loopw [7] (fun i wr => ∃ k : Nat, k ≤ 0 ∧ i = .int .i64 k ∧ Below W.heap.size W wr) (fun i _ => 0 - (intOf i).toNat)
  case atStart => exact ⟨0, Nat.zero_le _, rfl, Below.refl _ _⟩
  case round =>
    obtain ⟨k, hk, rfl, hnx⟩ := hrel
    by_cases hlt : k < 0
    · omega
    · have r0 := ext_cell hnx t0
      have r1 := ext_cell hnx t1
      have r2 := ext_cell hnx t2
      have B4 := grow_trans B3.out hnx
      clear t0 t1 t2 hnx
      go_wp2_with fail
      refine (txnBegun_any _).mono ?_
      rintro e w5 ⟨rfl, hb5⟩
      have s0 := ext_cell hb5 r0
      have s1 := ext_cell hb5 r1
      have s2 := ext_cell hb5 r2
      have B5 := grow_trans B4 hb5
      clear r0 r1 r2 B4 hb5
      go_wp2_with fail
      refine (txnCheck_any ra ga sa rc gc sc rs gs ss _ (HT.out.below B5)).mono ?_
      rintro e w6 ⟨rfl, hb6⟩
      have B6 := grow_trans B5 hb6
      clear s0 s1 s2 B5 hb6
      go_wp2
      go_ret
      exact ⟨by simp, B6⟩

theorem txnChecks_walk (w : World) (ht : IsTx w ra ga sa rs gs ss) :
    Calls Try.prog 6 #[.agg #[.slice ra rs.length rc, .slice ga gs.length gc, .slice sa ss.length sc]] w fun e w' => e = .returned (.bool true) ∧ Below w.heap.size w w' := by
  by_cases hC : chkTx rs gs ss = 0
  · exact txnChecks_ok ra ga sa rc gc sc rs gs ss w ht hC
  · exact txnChecks_bad ra ga sa rc gc sc rs gs ss w ht hC

set_option maxRecDepth 100000 in
theorem txnChecks_lifted (os : Os) (started : os.Started) (H : Type) (enc : TypeId × Value → H) :
    ReturnsInHanded {} Try.checked os 6 .any (Rows.txnChecksSpec.pre6 enc Try.prog Try.f6 Rows.txnChecksRow.domain false) (Rows.txnChecksSpec.post enc Try.prog Try.f6 false true false false) := by
  refine returnsInHanded_of_change (C := Try.checked) ownK started (by kernel_rfl) Try.func6
    (ChangeSpec.witness6 (enc := enc) (C := Try.checked) false ⟨#[], #[.agg #[.slice none 0 0, .slice none 0 0, .slice none 0 0]], []⟩ 8 (by kernel_rfl) (by kernel_rfl) (by kernel_rfl) (by kernel_rfl)) ?_
  intro W base args ds gs0 before hval0 hW hcnd _
  have hval : ∀ (j : Nat) t v, Try.f6.params[j]? = some t → args[j]? = some v → Value.okWide Try.prog W .any base t v := hval0
  have hW' := hW
  obtain ⟨p, q, hA0, hV, rfl, hfz, hnd⟩ := hW
  have hA : DataW.TrodAll enc Try.prog W 0 (fun _ => true) true Try.f6.params.toList args.toList ds p := hA0
  rw [Try.params6] at hA hval
  obtain ⟨v0, vs0, d0, ds0, p0, q0, hargs, rfl, rfl, h0, r0⟩ := trodAll_cons hA
  obtain ⟨rfl, rfl, rfl⟩ := trodAll_nil r0
  obtain rfl : args = #[v0] := by cases args; simp_all
  obtain ⟨rfl, rfl⟩ := trodVars_none hV
  have k0 := h0
  have lt0 : ∀ x ∈ p0, x.block < W.heap.size := by obtain ⟨m, hm⟩ := k0; exact DataW.trod_lt m _ _ _ hm
  obtain ⟨ra, ga, sa, rc, gc, sc, rs, gs, ss, rfl, htx⟩ := open_tx (hval 0 40 v0 rfl rfl) h0
  clear hA0 hval0
  refine (txnChecks_walk ra ga sa rc gc sc rs gs ss W htx).mono fun e W' ⟨he, bel⟩ => ?_
  subst he
  exact ⟨_, rfl, _, _, _, [], _, [], hW', trodAll_mk1 (shut_bool Try.underlying4 _), (trodAll_cons_mk (Below.trod laidOutK (by kernel_rfl) (of_decide_eq_true (by kernel_rfl)) k0 bel lt0) trodAll_mk0), rfl, bel.frame _, fun h => by cases h⟩

theorem txnChecks_over : Rows.txnChecksRow.holds Try.pinned (OpenSpec.ofChange Rows.txnChecksSpec) :=
  OpenClaim.holds_of_wide 6 Try.f6 rfl rfl rfl rfl rfl rfl rfl ⟨rfl, rfl, rfl, rfl, rfl⟩ rfl rfl rfl rfl rfl (by kernel_rfl) Try.func6 (by kernel_rfl)
    (of_decide_eq_true (by kernel_rfl)) (by unfold Func.isWrapper; first | (rw [if_pos (by decide +kernel)]; kernel_rfl) | (rw [if_neg (by decide +kernel)]; exact ⟨rfl, rfl⟩))
    (fun os started H enc _ => txnChecks_lifted os started H enc)

/-- The statement. -/
theorem txnChecks_holds : Rows.TxnChecksSaid := txnChecks_over
#print axioms txnChecks_holds
end Go.Proofs.Ytobhbllohafdhaa
