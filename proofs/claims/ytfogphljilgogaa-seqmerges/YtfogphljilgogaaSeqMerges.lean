/-
  Proved: for all batches of sites and numbers the law SeqMerges returns true: Merge and From answer just what the document says, errors too; the arguments read afterwards as they read before.
  Conditions: none of its own. The form's own reach, how many bytes a slice that comes in can take, is used: so the count of transactions does not wrap.
-/
import Derived.Test.YtfogphljilgogaaSeqT
import Derived.Test.YtfogphljilgogaaSeqL
import Derived.SizedLaws
import Derived.WalkKit
import Derived.WalkSpells
import Derived.WalkLawsBesides
import Derived.ProofKit
import Derived.OpenShut
import Derived.ChangeOld
import Derived.Deep.Slices
import Derived.Deep.Strs
import Derived.Deep.RegionHeld3
import Derived.BigQuiet
import Derived.Lib.SmallJoins
namespace Go.Proofs.Ytfogphljilgogaa
open Go.ChangeShapes Go.WideShapes Go.ChangeAt Go.RowKit Go.Deep

theorem mrg_len {ss : List StA} (hF : Few ss) : (mrg ss).length ≤ 144 := by
  unfold mrg
  split
  · rename_i hE
    have h1 := evs_len ss (chkS_three hE)
    have h2 := mergedX_few (evs ss) (fun x hx => hF (chkS_zero hE).1 _ (evs_allB hx))
    omega
  · simp
theorem mrg_small {ss : List StA} : ∀ x ∈ mrg ss, x.rs.length ≤ 100 ∧ x.gs.length ≤ 100 ∧ x.ss.length ≤ 100 := fun x hx => by
  unfold mrg at hx
  split at hx
  · rename_i hE
    obtain ⟨e, he, hx⟩ := List.mem_flatMap.1 hx
    have h0 := (chkS_zero hE).2 _ (evs_allB he)
    have h1 : chkTx x.rs x.gs x.ss = 0 := by
      obtain ⟨k, hk, rfl⟩ := List.mem_iff_getElem.1 hx
      have h4 := chkL_at h0 k hk
      have e4 : e.b.l.getD k x0 = e.b.l[k] := by simp [List.getD, hk]
      rw [e4] at h4
      exact h4
    have h2 := many_small _ _ _ (chk_parts h1).1
    omega
  · cases hx
theorem cl_small {cl l : List TxA} (hc : cl.map TxA.core = l.map TxA.core) (h : ∀ x ∈ l, x.rs.length ≤ 100 ∧ x.gs.length ≤ 100 ∧ x.ss.length ≤ 100) : ∀ x ∈ cl, x.rs.length ≤ 100 ∧ x.gs.length ≤ 100 ∧ x.ss.length ≤ 100 := fun x hx => by
  have h1 : x.core ∈ l.map TxA.core := by rw [← hc]; exact List.mem_map.2 ⟨x, hx, rfl⟩
  obtain ⟨y, hy, e⟩ := List.mem_map.1 h1
  have h2 := h y hy
  unfold TxA.core at e
  injection e with e1 e2
  injection e2 with e2 e3
  rw [e1, e2, e3] at h2
  exact h2

variable (qa : Option Addr) (qc : Nat) (ss : List StA) (n : Int)

set_option maxRecDepth 100000 in
set_option maxHeartbeats 2000000 in
theorem seqMerges_walk (w : World) (hS : IsSt w qa ss) (hsl : ss.length ≤ maxLen) (hF : Few ss) (hn : (Lit.int .i64 n).wf = true) :
    Calls Try.prog 9 #[.slice qa ss.length qc, .int .i64 n] w fun e w' => e = .returned (.bool true) ∧ Below w.heap.size w w' := by
  have hnw := (wf_bounds hn).2
  have HS : Hid (IsSt w qa ss) := hS
  have C1 : Hid (Calls Try.prog 32 #[.slice qa ss.length qc] w fun e w' => ∃ a c cl, e = .returned (.tuple #[.slice a (List.length cl) c, .int .i64 (chkS ss)]) ∧ IsTxs w' a cl ∧ cl.map TxA.core = (mrg ss).map TxA.core ∧ cl.length ≤ c ∧ (a = none → c = 0) ∧ Below w.heap.size w w') := merge_any qa qc ss w hS hsl
  have C2 : Hid (∀ w', IsSt w' qa ss → Calls Try.prog 33 #[.slice qa ss.length qc, .int .i64 n] w' fun e w'' => e = .returned (.tuple #[.int .i64 (fromS (frmO ss n)), .int .i64 (fromE (frmO ss n)), .int .i64 (fromK (frmO ss n)), .int .i64 (frmR ss n)]) ∧ Below w'.heap.size w' w'') := fun w' h => from_any qa qc ss n w' h hsl hnw
  have C3 : Hid (∀ w', IsSt w' qa ss → Calls Try.prog 34 #[.slice qa ss.length qc] w' fun e w'' => ∃ a c, e = .returned (.tuple #[.slice a (mrg ss).length c, .int .i64 (chkS ss)]) ∧ IsTxs w'' a (mrg ss) ∧ Below w'.heap.size w' w'') := fun w' h => mergeOf_any qa qc ss w' h hsl hF
  have C4 : Hid (∀ w', IsSt w' qa ss → Calls Try.prog 35 #[.slice qa ss.length qc, .int .i64 n] w' fun e w'' => e = .returned (.tuple #[.int .i64 (fromS (frmO ss n)), .int .i64 (fromE (frmO ss n)), .int .i64 (fromK (frmO ss n)), .int .i64 (frmR ss n)]) ∧ Below w'.heap.size w' w'') := fun w' h => fromOf_any qa qc ss n w' h hsl hF
  have B1 : Hid ((mrg ss).length ≤ 144) := mrg_len hF
  have B2 : Hid (∀ x ∈ mrg ss, x.rs.length ≤ 100 ∧ x.gs.length ≤ 100 ∧ x.ss.length ≤ 100) := mrg_small
  generalize mrg ss = L at *
  generalize chkS ss = E at *
  generalize fromS (frmO ss n) = r1 at *
  generalize fromE (frmO ss n) = r2 at *
  generalize fromK (frmO ss n) = r3 at *
  generalize frmR ss n = r4 at *
  clear hS hsl hF hn hnw
  go_enter Try.func9, Try.ntmps9
  go_wp2_with fail
  refine C1.out.mono ?_
  rintro e w1 ⟨a, c, cl, rfl, htx, hc, _, _, hb1⟩
  have HS1 : Hid (IsSt w1 qa ss) := HS.out.below hb1
  have HT1 : Hid (IsTxs w1 a cl) := htx
  have HC : Hid (cl.map TxA.core = L.map TxA.core) := hc
  have HB1 : Hid (Below w.heap.size w w1) := hb1
  clear htx hc hb1 C1 HS
  go_wp2_with fail
  refine (C2.out _ HS1.out).mono ?_
  rintro e w2 ⟨rfl, hb2⟩
  have HS2 : Hid (IsSt w2 qa ss) := HS1.out.below hb2
  have HT2 : Hid (IsTxs w2 a cl) := HT1.out.below hb2
  have HB2 : Hid (Below w.heap.size w w2) := grow_trans HB1.out hb2
  clear hb2 C2 HS1 HT1 HB1
  go_wp2_with fail
  refine (C3.out _ HS2.out).mono ?_
  rintro e w3 ⟨a3, c3, rfl, htx3, hb3⟩
  have HS3 : Hid (IsSt w3 qa ss) := HS2.out.below hb3
  have HT3 : Hid (IsTxs w3 a cl) := HT2.out.below hb3
  have HU3 : Hid (IsTxs w3 a3 L) := htx3
  have HB3 : Hid (Below w.heap.size w w3) := grow_trans HB2.out hb3
  clear hb3 C3 HS2 HT2 HB2 htx3
  go_wp2_with fail
  refine (C4.out _ HS3.out).mono ?_
  rintro e w4 ⟨rfl, hb4⟩
  have HT4 : Hid (IsTxs w4 a cl) := HT3.out.below hb4
  have HU4 : Hid (IsTxs w4 a3 L) := HU3.out.below hb4
  have HB4 : Hid (Below w.heap.size w w4) := grow_trans HB3.out hb4
  clear hb4 C4 HS3 HT3 HU3 HB3
  go_wp2_with fail
  refine (seqBegun_any _).mono ?_
  rintro e w5 ⟨rfl, hb5⟩
  have HT5 : Hid (IsTxs w5 a cl) := HT4.out.below hb5
  have HU5 : Hid (IsTxs w5 a3 L) := HU4.out.below hb5
  have HB5 : Hid (Below w.heap.size w w5) := grow_trans HB4.out hb5
  clear hb5 HT4 HU4 HB4
  go_wp2_with fail
  refine (sameTxns_eq cl L a a3 c c3 _ HC.out (by have h := congrArg List.length HC.out; rw [List.length_map, List.length_map] at h; have := B1.out; omega) (cl_small HC.out B2.out) HT5.out HU5.out).mono ?_
  rintro e w6 ⟨rfl, hb6⟩
  have B6 : Below w.heap.size w w6 := grow_trans HB5.out hb6
  clear hb6 HT5 HU5 HB5
  go_wp2
  go_ret
  exact ⟨by simp, B6⟩

set_option maxRecDepth 100000 in
theorem seqMerges_lifted (os : Os) (started : os.Started) (H : Type) (enc : TypeId × Value → H) :
    ReturnsInHanded {} Try.checked os 9 .any (Rows.seqMergesSpec.pre6 enc Try.prog Try.f9 Rows.seqMergesRow.domain false) (Rows.seqMergesSpec.post enc Try.prog Try.f9 false true false false) := by
  refine returnsInHanded_of_change_sized (C := Try.checked) ownK started (by kernel_rfl) Try.func9
    (ChangeSpec.witness6 (enc := enc) (C := Try.checked) false ⟨#[], #[.slice none 0 0, .int .i64 0], []⟩ 8 (by kernel_rfl) (by kernel_rfl) (by kernel_rfl) (by kernel_rfl)) ?_
  intro W base args ds gs0 before hval0 hW hcnd hsz0 _
  have hval : ∀ (j : Nat) t v, Try.f9.params[j]? = some t → args[j]? = some v → Value.okWide Try.prog W .any base t v := hval0
  have hsz : (DataW.weightsEach Try.prog (Try.f9.params.toList ++ Rows.seqMergesSpec.plain.varTypes Try.prog) (ds ++ gs0)).all (· ≤ reachBytes) = true := hsz0
  have hW' := hW
  obtain ⟨p, q, hA0, hV, rfl, hfz, hnd⟩ := hW
  have hA : DataW.TrodAll enc Try.prog W 0 (fun _ => true) true Try.f9.params.toList args.toList ds p := hA0
  rw [Try.params9] at hA hval hsz
  obtain ⟨v0, vs0, d0, ds0, p0, q0, hargs, rfl, rfl, h0, r0⟩ := trodAll_cons hA
  obtain ⟨v1, vs1, d1, ds1, p1, q1, rfl, rfl, rfl, h1, r1⟩ := trodAll_cons r0
  obtain ⟨rfl, rfl, rfl⟩ := trodAll_nil r1
  obtain rfl : args = #[v0, v1] := by cases args; simp_all
  obtain ⟨rfl, rfl⟩ := trodVars_none hV
  have k0 := h0
  have lt0 : ∀ x ∈ p0, x.block < W.heap.size := by obtain ⟨m, hm⟩ := k0; exact DataW.trod_lt m _ _ _ hm
  have k1 := h1
  have lt1 : ∀ x ∈ p1, x.block < W.heap.size := by obtain ⟨m, hm⟩ := k1; exact DataW.trod_lt m _ _ _ hm
  have hL : Light 67 d0 := fun n hn => by
    have h := List.all_eq_true.1 hsz n (DataW.weights_mem_each (j := 0) (t := 67) (d := d0) rfl rfl n hn)
    simpa using h
  obtain ⟨qa0, ss0, qc0, rfl, hsl0, hS0, hF0⟩ := open_q_w (hval 0 67 v0 rfl rfl) h0 hL
  obtain ⟨n1, rfl, hn1⟩ := open_i (hval 1 3 v1 rfl rfl) h1
  clear hA0 hval0
  refine (seqMerges_walk qa0 qc0 ss0 n1 W hS0 hsl0 hF0 hn1).mono fun e W' ⟨he, bel⟩ => ?_
  subst he
  exact ⟨_, rfl, _, _, _, [], _, [], hW', trodAll_mk1 (shut_bool Try.underlying4 _), (trodAll_cons_mk (Below.trod laidOutK (by kernel_rfl) (of_decide_eq_true (by kernel_rfl)) k0 bel lt0) (trodAll_cons_mk (Below.trod laidOutK (by kernel_rfl) (of_decide_eq_true (by kernel_rfl)) k1 bel lt1) trodAll_mk0)), rfl, bel.frame _, fun h => by cases h⟩

set_option maxRecDepth 100000 in
theorem seqMerges_over : Rows.seqMergesRow.holds Try.pinned (OpenSpec.ofChange Rows.seqMergesSpec) :=
  OpenClaim.holds_of_wide 9 Try.f9 rfl rfl rfl rfl rfl rfl rfl ⟨rfl, rfl, rfl, rfl, rfl⟩ rfl rfl rfl rfl rfl (by kernel_rfl) Try.func9 (by kernel_rfl)
    (of_decide_eq_true (by kernel_rfl)) (by unfold Func.isWrapper; first | (rw [if_pos (by decide +kernel)]; kernel_rfl) | (rw [if_neg (by decide +kernel)]; exact ⟨rfl, rfl⟩))
    (fun os started H enc _ => seqMerges_lifted os started H enc)

/-- The statement. -/
theorem seqMerges_holds : Rows.SeqMergesSaid := seqMerges_over
#print axioms seqMerges_holds
end Go.Proofs.Ytfogphljilgogaa
