/-
  Audit: AuditFrom walked.
  Conditions: those that each theorem states.
-/
import Derived.Test.YtcgpkonfneofdaaAudJ
import Derived.Test.YtcgpkonfneofdaaAudH
import Derived.Test.YtcgpkonfneofdaaAudI
import Derived.Test.YtcgpkonfneofdaaRunN
import Derived.WalkKit
import Derived.WalkSpells
import Derived.WalkLawsBesides
import Derived.Defers
import Derived.Recover
import Derived.ProofKit
import Derived.Deep.RegionHeld
import Derived.Deep.RegionHeld3
import Derived.Deep.RegionLaw
import Derived.Deep.DeepCutAuto
import Derived.Deep.QuietTactic
import Derived.BigQuiet
import Derived.Maps.AppendAt
import Derived.Lib.SliceRun
import Derived.Deep.AppendLies
namespace Go.Proofs.Ytcgpkonfneofdaa
open Go.RowKit

variable (sa la : Option Addr) (sc lc : Nat) (s : List Int) (l : List TxA)

set_option maxRecDepth 100000 in
set_option maxHeartbeats 2000000 in
theorem auditFrom_bad (n k : Int) (w : World) (hs : IsInts w sa s) (hl : IsTxs w la l) (hlc : l.length ≤ lc) (hE : ¬ rdE s l n = 0) :
    Calls Try.prog 4 #[.slice sa s.length sc, .slice la l.length lc, .int .i64 n, .int .i64 k] w fun e w' => e = .returned (.bool true) ∧ Below w.heap.size w w' := by
  have C1 : Hid (Calls Try.prog 8 #[.slice sa s.length sc, .slice la l.length lc, .int .i64 n] w fun e w'' => ∃ a c, e = .returned (.tuple #[.slice a (rdV s l n).length c, .int .i64 (rdE s l n)]) ∧ IsInts w'' a (rdV s l n) ∧ Below w.heap.size w w'') := reads_any' sa la sc lc s l n w hs hl hlc
  have C2 : Hid (∀ w', Below w.heap.size w w' → Calls Try.prog 13 #[.slice sa s.length sc, .slice la l.length lc] w' fun e w'' => ∃ ea ec xa xc, e = .returned (.tuple #[.slice ea (sEnd s l).length ec, .slice xa (sRes s l).length xc, .int .i64 (serE s l)]) ∧ Below w'.heap.size w' w'') := fun w' hb => (serial_any sa la sc lc s l w' (hs.below hb) (hl.below hb)).mono (by rintro e w'' ⟨ea, ec, xa, xc, rfl, h, hb⟩; exact ⟨ea, ec, xa, xc, rfl, hb⟩)
  clear hs hl hlc
  generalize rdV s l n = V at *
  generalize rdE s l n = E at *
  have hb : (E != 0) = true := by simpa using hE
  go_enter Try.func4, Try.ntmps4
  go_wp2_with fail
  refine C1.out.mono ?_
  rintro e w1 ⟨a, c, rfl, _, hb1⟩
  go_wp2_with fail
  refine (C2.out _ hb1).mono ?_
  rintro e w2 ⟨ea, ec, xa, xc, rfl, hb2⟩
  have B2 : Hid (Below w.heap.size w w2) := grow_trans hb1 hb2
  clear hb1 hb2
  go_wp2_with fail
  refine (auditBegun_any _).mono ?_
  rintro e w3 ⟨rfl, hb3⟩
  have B3 : Hid (Below w.heap.size w w3) := grow_trans B2.out hb3
  clear hb3
  go_wp2
  go_ret
  exact ⟨rfl, B3.out⟩

set_option maxRecDepth 100000 in
set_option maxHeartbeats 4000000 in
theorem auditFrom_ok (N : Nat) (k : Int) (w : World) (hs : IsInts w sa s) (hl : IsTxs w la l) (hlc : l.length ≤ lc) (hk : (Lit.int .i64 k).wf = true) (hE : rdE s l (N : Nat) = 0) (hN : N < l.length) :
    Calls Try.prog 4 #[.slice sa s.length sc, .slice la l.length lc, .int .i64 (N : Nat), .int .i64 k] w fun e w' => e = .returned (.bool true) ∧ Below w.heap.size w w' := by
  obtain ⟨z1, _⟩ := rdE_zero hE
  obtain ⟨h8, hc⟩ := serE_zero z1
  have hl8 := chkL_len hc
  have e1 : sRes s l = serRes s l := if_pos z1
  have e2 : rdV s l (N : Nat) = rdL s l N := if_pos hE
  have HRL : Hid ((serRes s l).length = l.length) := serRes_len _ _
  have C1 : Hid (Calls Try.prog 8 #[.slice sa s.length sc, .slice la l.length lc, .int .i64 (N : Nat)] w fun e w'' => ∃ a c, e = .returned (.tuple #[.slice a (rdL s l N).length c, .int .i64 0]) ∧ IsInts w'' a (rdL s l N) ∧ Below w.heap.size w w'') := by
    have h := reads_any' sa la sc lc s l (N : Nat) w hs hl hlc
    rw [e2, hE] at h
    exact h
  have C2 : Hid (∀ w', Below w.heap.size w w' → Calls Try.prog 13 #[.slice sa s.length sc, .slice la l.length lc] w' fun e w'' => ∃ ea ec xa xc, e = .returned (.tuple #[.slice ea (sEnd s l).length ec, .slice xa (serRes s l).length xc, .int .i64 0]) ∧ IsRes w'' xa (serRes s l) ∧ Below w'.heap.size w' w'') := fun w' hb => by
    have h := serial_any sa la sc lc s l w' (hs.below hb) (hl.below hb)
    rw [e1, z1] at h
    exact h.mono (by rintro e w'' ⟨ea, ec, xa, xc, rfl, h, hb⟩; exact ⟨ea, ec, xa, xc, rfl, h.res, hb⟩)
  obtain ⟨b0, off, ela, hbb, c0, c1, c2, hx⟩ := hl N hN
  have HL : Hid (IsTxs w la l) := hl
  have HS : Hid (IsInts w sa s) := hs
  have HRS : Hid (IsInts w (l.getD N x0).ra (l.getD N x0).rs) := hx.t.r
  obtain ⟨r4, _⟩ := right_reads hc N hN
  have HC : Hid (chkL l = 0) := hc
  have H8 : Hid (s.length = 8) := h8
  have HD : Hid (rdL s l N = (l.getD N x0).rs.map (fun key => lB (serRes s l) l key N)) := by show _ = _; unfold rdL; rw [e1]
  have HDL : Hid ((rdL s l N).length = (l.getD N x0).rs.length) := by show _ = _; rw [HD.out, List.length_map]
  have HVL : Hid (((serRes s l).getD N (false, [])).2.length = (l.getD N x0).rs.length) := by
    show _ = _
    rw [serRes_is s l N hN]
    exact rdOf_len _ _
  have HVG : Hid (∀ i, i < (l.getD N x0).rs.length → ((serRes s l).getD N (false, [])).2.getD i 0 = getAt (serEnd s (l.take N)) ((l.getD N x0).rs.getD i 0)) := fun i hi => by
    rw [serRes_is s l N hN]
    show (rdOf (serEnd s (l.take N)) (l.getD N x0).rs).getD i 0 = _
    generalize (l.getD N x0).rs = q at hi
    unfold rdOf
    simp [List.getD, hi]
  have HKR : Hid (∀ i, i < (l.getD N x0).rs.length → 0 ≤ (l.getD N x0).rs.getD i 0 ∧ (l.getD N x0).rs.getD i 0 < 8) := fun i hi => rangeE_get _ (chk_ranges (show chkTx (l.getD N x0).rs (l.getD N x0).gs (l.getD N x0).ss = 0 from chkL_at hc N hN)).1 i hi
  have HBY : Hid (∀ i, i < (l.getD N x0).rs.length → (rdL s l N).getD i 0 = lB (serRes s l) l ((l.getD N x0).rs.getD i 0) N) := fun i hi => by
    rw [HD.out]
    generalize (l.getD N x0).rs = q at hi
    simp [List.getD, hi]
  clear hs hl hlc hE z1 e1 e2 hx c1 c2 HD h8 hc
  subst ela
  change w.cell? ⟨b0, off + N * 3, none⟩ = some (.slice (l.getD N x0).ra (l.getD N x0).rs.length (l.getD N x0).rc) at c0
  generalize hX : l.getD N x0 = XN at c0 r4 HRS HDL HVL HVG HKR HBY
  obtain ⟨ra0, ga0, ta0, rc0, gc0, tc0, rs, gs0, ss0⟩ := XN
  simp only at c0 r4 HRS HDL HVL HVG HKR HBY
  clear hX
  have j2 : (N : Int) < (l.length : Int) := by omega
  have j3 : (((serRes s l).length : Int) != (l.length : Int)) = false := by rw [HRL.out]; simp
  have j4 : (((rdL s l N).length : Int) != (rs.length : Int)) = false := by rw [HDL.out]; simp
  have j5 : ((rs.length : Int) != ((rdL s l N).length : Int)) = false := by rw [HDL.out]; simp
  have j6 : (N : Int) < ((serRes s l).length : Int) := by rw [HRL.out]; omega
  go_enter Try.func4, Try.ntmps4
  go_wp2_with fail
  refine C1.out.mono ?_
  rintro e w1 ⟨a, c, rfl, ha, hb1⟩
  go_wp2_with fail
  refine (C2.out _ hb1).mono ?_
  rintro e V ⟨ea, ec, xa, xc, rfl, hx1, hb2⟩
  have BV : Hid (Below w.heap.size w V) := grow_trans hb1 hb2
  have HA : Hid (IsInts V a (rdL s l N)) := ha.below hb2
  have HX1 : Hid (IsRes V xa (serRes s l)) := hx1
  have c0 := ext_cell BV.out c0
  obtain ⟨rb, ro, va, vc, exa, _, _, v1, hv1⟩ := HX1.out N (by rw [HRL.out]; exact hN)
  subst exa
  rw [HVL.out] at v1
  have HV1 : Hid (IsInts V va ((serRes s l).getD N (false, [])).2) := hv1
  clear hb1 hb2 ha hx1 hv1 C1 C2
  by_cases h0 : rs.length = 0
  · have j7 : (((rdL s l N).length : Int) == 0) = true := by rw [HDL.out, h0]; rfl
    clear h0
    go_wp2_with fail
    refine (auditBegun_any _).mono ?_
    rintro e w3 ⟨rfl, hb3⟩
    have B3 : Hid (Below w.heap.size w w3) := grow_trans BV.out hb3
    clear hb3
    go_wp2
    go_ret
    exact ⟨rfl, B3.out⟩
  · have j7 : (((rdL s l N).length : Int) == 0) = false := by rw [HDL.out, beq_eq_false_iff_ne]; omega
    have CH : Hid (Calls Try.prog 14 #[.int .i64 k, .int .i64 ((rdL s l N).length : Nat)] V fun e w' => ∃ i : Nat, i < (rdL s l N).length ∧ e = .returned (.int .i64 i) ∧ w' = V) := choose_any k (rdL s l N).length V hk (by rw [HDL.out]; omega) (by rw [HDL.out]; omega)
    clear h0 hk
    go_wp2_with fail
    refine CH.out.mono ?_
    rintro e w3 ⟨i, hi, rfl, hwe⟩
    subst hwe
    have hi' : i < rs.length := by have := HDL.out; omega
    obtain ⟨ib, io, era, _, k0⟩ := HRS.out i hi'
    obtain ⟨bb, bo, eaa, _, y0⟩ := HA.out i hi
    obtain ⟨vb, vo, eva, _, u0⟩ := HV1.out i (by rw [HVL.out]; exact hi')
    have era' : ra0 = some ⟨ib, io, none⟩ := era
    subst era' eaa eva
    have k0 := ext_cell BV.out k0
    rw [HBY.out i hi'] at y0
    have HVi := HVG.out i hi'
    rw [HVi] at u0
    obtain ⟨kl, kh⟩ := HKR.out i hi'
    have FS := from_spec (s := s) (l := l) H8.out HC.out (rs.getD i 0) ⟨kl, kh⟩ N (by omega)
    obtain ⟨K, hK⟩ := Int.eq_ofNat_of_zero_le kl
    have hK8 : K < s.length := by rw [H8.out]; omega
    obtain ⟨sb, so, esa, _, t0⟩ := HS.out K hK8
    subst esa
    have t0 := ext_cell BV.out t0
    have i1 : (i : Int) < (rs.length : Int) := by omega
    have i2 : (i : Int) < ((rdL s l N).length : Int) := by omega
    have i3 : (K : Int) < (s.length : Int) := by omega
    rw [hK] at k0 y0 u0 FS
    have hgs : getAt s ((K : Nat) : Int) = s.getD K 0 := by unfold getAt; rw [Int.toNat_natCast]
    clear era hK kl kh HVi
    obtain ⟨val, hval⟩ : ∃ v, getAt (serEnd s (l.take N)) ((K : Nat) : Int) = v := ⟨_, rfl⟩
    rw [hval] at u0 FS
    rcases FS with ⟨f1, f2⟩ | ⟨b, f1, f2, f3, f4, f5⟩
    · rw [f1] at y0
      have hsv : s.getD K 0 = val := by rw [← hgs, f2]
      rw [hsv] at t0
      clear f1 f2 hsv hval hgs
      go_upto_region 12 with fail
      have KS : Hid (∀ w', Below w3.heap.size w3 w' → w'.cell? ⟨rb, ro + N * 2 + 1, none⟩ = some (.slice (some ⟨vb, vo, none⟩) rs.length vc) ∧ w'.cell? ⟨vb, vo + i, none⟩ = some (.int .i64 val) ∧ w'.cell? ⟨sb, so + K, none⟩ = some (.int .i64 val)) := fun w' hb => ⟨ext_cell hb v1, ext_cell hb u0, ext_cell hb t0⟩
      clear v1 u0 t0 c0 k0 y0
      refine wp_region_held_drew (S := (fun w' => w'.cell? ⟨rb, ro + N * 2 + 1, none⟩ = some (.slice (some ⟨vb, vo, none⟩) rs.length vc) ∧ w'.cell? ⟨vb, vo + i, none⟩ = some (.int .i64 val) ∧ w'.cell? ⟨sb, so + K, none⟩ = some (.int .i64 val))) (by kernel_rfl) ?_ (fun hHeld => ?_)
      · exact KS.out _ (grow_drew (Below.refl _ _))
      refine wpAnyH_ready (rs := [0]) (by kernel_rfl) (by simp) ?_
      refine AllReadyH.cons (o := { dst := some 100, op := .call { callee := .value (.func 11), args := #[], argTypes := #[] }, type := 4, pos := "two.go:269", after := #[], guard := none }) rfl (fun K hK => ?_) (AllReadyH.nil)
      go_simp
      go_wp2_with (go_at_call 11; refine (auditBegun_any _).mono ?_; rintro e w8 ⟨rfl, hb8⟩)
      have B8 : Hid (Below w3.heap.size w3 w8) := grow_trans (grow_drew (Below.refl _ _)) hb8
      clear hHeld
      refine hK.out _ _ (KS.out _ B8.out) (fun hHeld => ?_)
      clear hK K
      refine wpAnyH_take (i := 1) (oi := { dst := some 101, op := .move (.tmp 100), type := 4, pos := "two.go:269", after := #[{ on := 0, ground := .data }, { on := 0, ground := .chain }], guard := none }) (v := ?_) rfl (by kernel_rfl) (by kernel_rfl) (by kernel_rfl) (fun _ _ _ h => h) (Or.inl ⟨by rfl, ?_⟩) (by assumption) ?_
      rotate_left
      · intro w hSw
        go_simp
        first | done | with_reducible rfl
      try simp only [Act.put, List.setIfInBounds_toArray, List.set_cons_zero, List.set_cons_succ]
      refine wpAnyH_take (i := 2) (oi := { dst := some 102, op := .move (.tmp 12), type := 24, pos := "two.go:269", after := #[{ on := 1, ground := .guard }], guard := some (1, true) }) (v := ?_) rfl (by kernel_rfl) (by kernel_rfl) (by kernel_rfl) (fun _ _ _ h => h) (Or.inl ⟨by rfl, ?_⟩) (by assumption) ?_
      rotate_left
      · intro w hSw
        go_simp
        first | done | with_reducible rfl
      try simp only [Act.put, List.setIfInBounds_toArray, List.set_cons_zero, List.set_cons_succ]
      refine wpAnyH_take (i := 3) (oi := { dst := some 103, op := .move (.tmp 2), type := 3, pos := "two.go:269", after := #[{ on := 1, ground := .guard }], guard := some (1, true) }) (v := ?_) rfl (by kernel_rfl) (by kernel_rfl) (by kernel_rfl) (fun _ _ _ h => h) (Or.inl ⟨by rfl, ?_⟩) (by assumption) ?_
      rotate_left
      · intro w hSw
        go_simp
        first | done | with_reducible rfl
      try simp only [Act.put, List.setIfInBounds_toArray, List.set_cons_zero, List.set_cons_succ]
      refine wpAnyH_take (i := 4) (oi := { dst := some 104, op := .indexAddr 24 (.tmp 102) (.tmp 103), type := 0, pos := "two.go:269", after := #[{ on := 2, ground := .data }, { on := 3, ground := .data }, { on := 1, ground := .guard }], guard := some (1, true) }) (v := ?_) rfl (by kernel_rfl) (by kernel_rfl) (by kernel_rfl) (fun _ _ _ h => h) (Or.inl ⟨by rfl, ?_⟩) (by assumption) ?_
      rotate_left
      · intro w hSw
        go_simp
        first | done | with_reducible rfl
      try simp only [Act.put, List.setIfInBounds_toArray, List.set_cons_zero, List.set_cons_succ]
      refine wpAnyH_take (i := 5) (oi := { dst := some 105, op := .fieldAddr 40 (.tmp 104) 1, type := 0, pos := "two.go:269", after := #[{ on := 4, ground := .data }, { on := 1, ground := .guard }], guard := some (1, true) }) (v := ?_) rfl (by kernel_rfl) (by kernel_rfl) (by kernel_rfl) (fun _ _ _ h => h) (Or.inl ⟨by rfl, ?_⟩) (by assumption) ?_
      rotate_left
      · intro w hSw
        go_simp
        first | done | with_reducible rfl
      try simp only [Act.put, List.setIfInBounds_toArray, List.set_cons_zero, List.set_cons_succ]
      refine wpAnyH_take (i := 6) (oi := { dst := some 106, op := .load 22 (.tmp 105), type := 22, pos := "two.go:269", after := #[{ on := 5, ground := .data }, { on := 1, ground := .guard }], guard := some (1, true) }) (v := ?_) rfl (by kernel_rfl) (by kernel_rfl) (by kernel_rfl) (fun _ _ _ h => h) (Or.inl ⟨by rfl, ?_⟩) (by assumption) ?_
      rotate_left
      · intro w hSw
        go_simp
        first | done | with_reducible rfl
      try simp only [Act.put, List.setIfInBounds_toArray, List.set_cons_zero, List.set_cons_succ]
      refine wpAnyH_take (i := 7) (oi := { dst := some 107, op := .move (.tmp 14), type := 3, pos := "two.go:269", after := #[{ on := 1, ground := .guard }], guard := some (1, true) }) (v := ?_) rfl (by kernel_rfl) (by kernel_rfl) (by kernel_rfl) (fun _ _ _ h => h) (Or.inl ⟨by rfl, ?_⟩) (by assumption) ?_
      rotate_left
      · intro w hSw
        go_simp
        first | done | with_reducible rfl
      try simp only [Act.put, List.setIfInBounds_toArray, List.set_cons_zero, List.set_cons_succ]
      refine wpAnyH_take (i := 8) (oi := { dst := some 108, op := .indexAddr 22 (.tmp 106) (.tmp 107), type := 0, pos := "two.go:269", after := #[{ on := 6, ground := .data }, { on := 7, ground := .data }, { on := 1, ground := .guard }], guard := some (1, true) }) (v := ?_) rfl (by kernel_rfl) (by kernel_rfl) (by kernel_rfl) (fun _ _ _ h => h) (Or.inl ⟨by rfl, ?_⟩) (by assumption) ?_
      rotate_left
      · intro w hSw
        go_simp
        first | done | with_reducible rfl
      try simp only [Act.put, List.setIfInBounds_toArray, List.set_cons_zero, List.set_cons_succ]
      refine wpAnyH_take (i := 9) (oi := { dst := some 109, op := .load 3 (.tmp 108), type := 3, pos := "two.go:269", after := #[{ on := 8, ground := .data }, { on := 1, ground := .guard }], guard := some (1, true) }) (v := ?_) rfl (by kernel_rfl) (by kernel_rfl) (by kernel_rfl) (fun _ _ _ h => h) (Or.inl ⟨by rfl, ?_⟩) (by assumption) ?_
      rotate_left
      · intro w hSw
        go_simp
        first | done | with_reducible rfl
      try simp only [Act.put, List.setIfInBounds_toArray, List.set_cons_zero, List.set_cons_succ]
      refine wpAnyH_take (i := 10) (oi := { dst := some 110, op := .move (.tmp 0), type := 22, pos := "two.go:269", after := #[{ on := 1, ground := .guard }], guard := some (1, true) }) (v := ?_) rfl (by kernel_rfl) (by kernel_rfl) (by kernel_rfl) (fun _ _ _ h => h) (Or.inl ⟨by rfl, ?_⟩) (by assumption) ?_
      rotate_left
      · intro w hSw
        go_simp
        first | done | with_reducible rfl
      try simp only [Act.put, List.setIfInBounds_toArray, List.set_cons_zero, List.set_cons_succ]
      refine wpAnyH_take (i := 11) (oi := { dst := some 111, op := .move (.tmp 15), type := 3, pos := "two.go:269", after := #[{ on := 1, ground := .guard }], guard := some (1, true) }) (v := ?_) rfl (by kernel_rfl) (by kernel_rfl) (by kernel_rfl) (fun _ _ _ h => h) (Or.inl ⟨by rfl, ?_⟩) (by assumption) ?_
      rotate_left
      · intro w hSw
        go_simp
        first | done | with_reducible rfl
      try simp only [Act.put, List.setIfInBounds_toArray, List.set_cons_zero, List.set_cons_succ]
      refine wpAnyH_take (i := 12) (oi := { dst := some 112, op := .indexAddr 22 (.tmp 110) (.tmp 111), type := 0, pos := "two.go:269", after := #[{ on := 10, ground := .data }, { on := 11, ground := .data }, { on := 1, ground := .guard }], guard := some (1, true) }) (v := ?_) rfl (by kernel_rfl) (by kernel_rfl) (by kernel_rfl) (fun _ _ _ h => h) (Or.inl ⟨by rfl, ?_⟩) (by assumption) ?_
      rotate_left
      · intro w hSw
        go_simp
        first | done | with_reducible rfl
      try simp only [Act.put, List.setIfInBounds_toArray, List.set_cons_zero, List.set_cons_succ]
      refine wpAnyH_take (i := 13) (oi := { dst := some 113, op := .load 3 (.tmp 112), type := 3, pos := "two.go:269", after := #[{ on := 12, ground := .data }, { on := 1, ground := .guard }], guard := some (1, true) }) (v := ?_) rfl (by kernel_rfl) (by kernel_rfl) (by kernel_rfl) (fun _ _ _ h => h) (Or.inl ⟨by rfl, ?_⟩) (by assumption) ?_
      rotate_left
      · intro w hSw
        go_simp
        first | done | with_reducible rfl
      try simp only [Act.put, List.setIfInBounds_toArray, List.set_cons_zero, List.set_cons_succ]
      refine wpAnyH_take (i := 14) (oi := { dst := some 114, op := .binOp .eql 3 (.tmp 109) (.tmp 113) 3, type := 4, pos := "two.go:269", after := #[{ on := 9, ground := .data }, { on := 13, ground := .data }, { on := 1, ground := .guard }], guard := some (1, true) }) (v := ?_) rfl (by kernel_rfl) (by kernel_rfl) (by kernel_rfl) (fun _ _ _ h => h) (Or.inl ⟨by rfl, ?_⟩) (by assumption) ?_
      rotate_left
      · intro w hSw
        go_simp
        first | done | with_reducible rfl
      try simp only [Act.put, List.setIfInBounds_toArray, List.set_cons_zero, List.set_cons_succ]
      refine wpAnyH_take (i := 15) (oi := { dst := some 115, op := .pick (.tmp 101) (.tmp 114) (.const (.bool false)), type := 4, pos := "two.go:269", after := #[{ on := 1, ground := .data }, { on := 14, ground := .data }], guard := none }) (v := ?_) rfl (by kernel_rfl) (by kernel_rfl) (by kernel_rfl) (fun _ _ _ h => h) (Or.inl ⟨by rfl, ?_⟩) (by assumption) ?_
      rotate_left
      · intro w hSw
        go_simp
        first | done | with_reducible rfl
      try simp only [Act.put, List.setIfInBounds_toArray, List.set_cons_zero, List.set_cons_succ]
      refine wpAnyH_take (i := 16) (oi := { dst := some 8, op := .assign (.tmp 115), type := 4, pos := "two.go:269", after := #[{ on := 15, ground := .data }, { on := 1, ground := .chain }, { on := 0, ground := .phase }, { on := 1, ground := .phase }, { on := 2, ground := .phase }, { on := 3, ground := .phase }, { on := 4, ground := .phase }, { on := 5, ground := .phase }, { on := 6, ground := .phase }, { on := 7, ground := .phase }, { on := 8, ground := .phase }, { on := 9, ground := .phase }, { on := 10, ground := .phase }, { on := 11, ground := .phase }, { on := 12, ground := .phase }, { on := 13, ground := .phase }, { on := 14, ground := .phase }, { on := 15, ground := .phase }], guard := none }) (v := ?_) rfl (by kernel_rfl) (by kernel_rfl) (by kernel_rfl) (fun _ _ _ h => h) (Or.inl ⟨by rfl, ?_⟩) (by assumption) ?_
      rotate_left
      · intro w hSw
        go_simp
        first | done | with_reducible rfl
      try simp only [Act.put, List.setIfInBounds_toArray, List.set_cons_zero, List.set_cons_succ]
      refine wpAnyH_done (by kernel_rfl) ?_ _
      clear hHeld KS
      go_wp2
      go_ret
      exact ⟨rfl, grow_trans BV.out B8.out⟩
    · rw [f2] at y0
      have hbl : b < l.length := by omega
      have HT := HL.out b hbl
      obtain ⟨b1, off1, elb, _, d0, d1, d2, hxb⟩ := HT
      have elb1 : b0 = b1 := by injection elb with e; injection e
      have elb2 : off = off1 := by injection elb with e; injection e
      clear elb
      subst elb1 elb2
      obtain ⟨rb1, ro1, zva, zvc, erb, _, q0, q1, hzv⟩ := HX1.out b (by rw [HRL.out]; exact hbl)
      have erb1 : rb = rb1 := by injection erb with e; injection e
      have erb2 : ro = ro1 := by injection erb with e; injection e
      clear erb
      subst erb1 erb2
      rw [f3] at q0
      have d0 := ext_cell BV.out d0
      have d1 := ext_cell BV.out d1
      have d2 := ext_cell BV.out d2
      have HXB : Hid (IsX w3 (l.getD b x0)) := hxb.below BV.out
      have hckb : chkTx (l.getD b x0).rs (l.getD b x0).gs (l.getD b x0).ss = 0 := chkL_at HC.out b hbl
      have HRB := serRes_is s l b hbl
      obtain ⟨⟨D, Z⟩, hRB⟩ : ∃ z, (serRes s l).getD b (false, []) = z := ⟨_, rfl⟩
      rw [hRB] at f3 f5 q1 hzv HRB
      simp only at f3 f5 q1 hzv
      have hDZ : D = aDone (serEnd s (l.take b)) (l.getD b x0) ∧ Z = aVals (serEnd s (l.take b)) (l.getD b x0) := by
        injection HRB with e1 e2
        exact ⟨e1, e2⟩
      have hZl : Z.length = (l.getD b x0).rs.length := by rw [hDZ.2]; exact rdOf_len _ _
      have hall : allG Z (l.getD b x0).gs = true := by
        have h1 : aDone (serEnd s (l.take b)) (l.getD b x0) = true := by rw [← hDZ.1]; exact f3
        rw [hDZ.2]
        exact h1
      have HZ : Hid (IsInts w3 zva Z) := hzv
      have HEX : Hid (∃ j, j < (l.getD b x0).ss.length ∧ ((l.getD b x0).ss.getD j s0).key = ((K : Nat) : Int)) := f4
      have HVAL : Hid (∀ j, j < (l.getD b x0).ss.length → ((l.getD b x0).ss.getD j s0).key = ((K : Nat) : Int) → val = (allS Z (l.getD b x0).ss).getD j 0) := f5
      clear hRB HRB hDZ hzv hxb f4 f5 hval f2 hgs f3 t0
      generalize hXb : l.getD b x0 = XB at *
      obtain ⟨ra, ga, ta, rc, gc, tc, rs2, gs, ss⟩ := XB
      simp only at d0 d1 d2 hckb hZl hall HEX HVAL
      have HSS0 : Hid (IsSs w3 ta ss) := HXB.out.t.s
      have hs3 : ss.length ≤ 3 := (many_small _ _ _ (chk_parts hckb).1).2.2.1
      have hrun : runE rs2 gs ss Z = 0 := by
        have hcz : countE rs2 Z = 0 := if_pos hZl
        unfold runE
        rw [hckb, hcz]
        rfl
      have er1 : runD rs2 gs ss Z = true := (if_pos hrun).trans hall
      have er2 : runV rs2 gs ss Z = Z := if_pos hrun
      have er3 : runM rs2 gs ss Z = allS Z ss := (if_pos hrun).trans (if_pos hall)
      have HAL : Hid ((allS Z ss).length = ss.length) := by show _ = _; simp [allS]
      have CR0 : Hid (∀ w', Below w3.heap.size w3 w' → Calls Try.prog 15 #[.agg #[.slice ra rs2.length rc, .slice ga gs.length gc, .slice ta ss.length tc], .slice zva Z.length zvc] w' fun e w'' => ∃ qa qc ma mc, e = .returned (.tuple #[.agg #[.bool true, .slice qa Z.length qc], .slice ma (allS Z ss).length mc, .int .i64 0]) ∧ IsAt w'.heap.size w''.heap.size w'' ma (allS Z ss) ∧ Below w'.heap.size w' w'') := fun w' hb => by
        have h := txnRun_any2 ra ga ta rc gc tc rs2 gs ss zva zvc Z w' (HXB.out.t.below hb) (HZ.out.below hb)
        rw [er1, er2, er3, hrun] at h
        exact h.mono (by rintro e w'' ⟨qa, qc, ma, mc, rfl, _, h2, h3⟩; exact ⟨qa, qc, ma, mc, rfl, h2, h3⟩)
      have i4 : (b : Int) < (N : Int) := by omega
      have i5 : (b : Int) < (l.length : Int) := by omega
      have i6 : (b : Int) < ((serRes s l).length : Int) := by rw [HRL.out]; exact i5
      have hbn : (((b : Nat) : Int) == -1) = false := by simp
      clear hckb hZl hall hrun er1 er2 er3 hXb HXB HZ
      go_upto_region 16 with fail
      obtain ⟨V, hVe⟩ : ∃ V : World, V = w3.alloc (.cells #[.slice ra rs2.length rc, .slice ga gs.length gc, .slice ta ss.length tc] 38) := ⟨_, rfl⟩
      have gV : Below w3.heap.size w3 V := by rw [hVe]; exact grow_alloc (Below.refl _ _) _
      have x0' : V.cell? ⟨w3.heap.size, 0, none⟩ = some (.slice ra rs2.length rc) := by rw [hVe]; exact at_new _ _ 38 _ 0 _ rfl rfl
      have x1' : V.cell? ⟨w3.heap.size, 1, none⟩ = some (.slice ga gs.length gc) := by rw [hVe]; exact at_new _ _ 38 _ 1 _ rfl rfl
      have x2' : V.cell? ⟨w3.heap.size, 2, none⟩ = some (.slice ta ss.length tc) := by rw [hVe]; exact at_new _ _ 38 _ 2 _ rfl rfl
      have y0 := ext_cell gV y0
      have q1 := ext_cell gV q1
      have v1 := ext_cell gV v1
      have u0 := ext_cell gV u0
      have BV : Hid (Below w.heap.size w V) := grow_trans BV.out gV
      have HSS : Hid (IsSs V ta ss) := HSS0.out.below gV
      have CR : Hid (∀ w', Below V.heap.size V w' → Calls Try.prog 15 #[.agg #[.slice ra rs2.length rc, .slice ga gs.length gc, .slice ta ss.length tc], .slice zva Z.length zvc] w' fun e w'' => ∃ qa qc ma mc, e = .returned (.tuple #[.agg #[.bool true, .slice qa Z.length qc], .slice ma (allS Z ss).length mc, .int .i64 0]) ∧ IsAt w'.heap.size w''.heap.size w'' ma (allS Z ss) ∧ Below w'.heap.size w' w'') := fun w' hb => CR0.out w' (grow_trans gV hb)
      rw [← hVe]
      clear hVe gV CR0 HSS0 d0 d1 d2 c0 k0 q0
      generalize w3.heap.size = X at *
      have KS : Hid (∀ w', Below V.heap.size V w' → w'.cell? ⟨X, 0, none⟩ = some (.slice ra rs2.length rc) ∧ w'.cell? ⟨X, 1, none⟩ = some (.slice ga gs.length gc) ∧ w'.cell? ⟨X, 2, none⟩ = some (.slice ta ss.length tc) ∧ w'.cell? ⟨bb, bo + i, none⟩ = some (.int .i64 (b : Nat)) ∧ w'.cell? ⟨rb, ro + b * 2 + 1, none⟩ = some (.slice zva Z.length zvc)) := fun w' hb => ⟨ext_cell hb x0', ext_cell hb x1', ext_cell hb x2', ext_cell hb y0, ext_cell hb q1⟩
      have CBV : Hid (∀ w', Below V.heap.size V w' → w'.cell? ⟨rb, ro + N * 2 + 1, none⟩ = some (.slice (some ⟨vb, vo, none⟩) rs.length vc) ∧ w'.cell? ⟨vb, vo + i, none⟩ = some (.int .i64 val)) := fun w' hb => ⟨ext_cell hb v1, ext_cell hb u0⟩
      clear x0' x1' x2' y0 q1 v1 u0
      refine wp_region_held_drew (S := (fun w' => w'.cell? ⟨X, 0, none⟩ = some (.slice ra rs2.length rc) ∧ w'.cell? ⟨X, 1, none⟩ = some (.slice ga gs.length gc) ∧ w'.cell? ⟨X, 2, none⟩ = some (.slice ta ss.length tc) ∧ w'.cell? ⟨bb, bo + i, none⟩ = some (.int .i64 (b : Nat)) ∧ w'.cell? ⟨rb, ro + b * 2 + 1, none⟩ = some (.slice zva Z.length zvc))) (by kernel_rfl) ?_ (fun hHeld => ?_)
      · exact KS.out _ (grow_drew (Below.refl _ _))
      refine wpAnyH_take (i := 0) (oi := { dst := some 148, op := .load 38 (.tmp 16), type := 38, pos := "two.go:275", after := #[], guard := none }) (v := ?_) rfl (by kernel_rfl) (by kernel_rfl) (by kernel_rfl) (fun _ _ _ h => h) (Or.inl ⟨by rfl, ?_⟩) (by assumption) ?_
      rotate_left
      · intro w hSw
        go_simp
        first | done | with_reducible rfl
      try simp only [Act.put, List.setIfInBounds_toArray, List.set_cons_zero, List.set_cons_succ]
      refine wpAnyH_take (i := 1) (oi := { dst := some 149, op := .move (.tmp 12), type := 24, pos := "two.go:275", after := #[], guard := none }) (v := ?_) rfl (by kernel_rfl) (by kernel_rfl) (by kernel_rfl) (fun _ _ _ h => h) (Or.inl ⟨by rfl, ?_⟩) (by assumption) ?_
      rotate_left
      · intro w hSw
        go_simp
        first | done | with_reducible rfl
      try simp only [Act.put, List.setIfInBounds_toArray, List.set_cons_zero, List.set_cons_succ]
      refine wpAnyH_take (i := 2) (oi := { dst := some 150, op := .move (.tmp 9), type := 22, pos := "two.go:275", after := #[], guard := none }) (v := ?_) rfl (by kernel_rfl) (by kernel_rfl) (by kernel_rfl) (fun _ _ _ h => h) (Or.inl ⟨by rfl, ?_⟩) (by assumption) ?_
      rotate_left
      · intro w hSw
        go_simp
        first | done | with_reducible rfl
      try simp only [Act.put, List.setIfInBounds_toArray, List.set_cons_zero, List.set_cons_succ]
      refine wpAnyH_take (i := 3) (oi := { dst := some 151, op := .move (.tmp 14), type := 3, pos := "two.go:275", after := #[], guard := none }) (v := ?_) rfl (by kernel_rfl) (by kernel_rfl) (by kernel_rfl) (fun _ _ _ h => h) (Or.inl ⟨by rfl, ?_⟩) (by assumption) ?_
      rotate_left
      · intro w hSw
        go_simp
        first | done | with_reducible rfl
      try simp only [Act.put, List.setIfInBounds_toArray, List.set_cons_zero, List.set_cons_succ]
      refine wpAnyH_take (i := 4) (oi := { dst := some 152, op := .indexAddr 22 (.tmp 150) (.tmp 151), type := 0, pos := "two.go:275", after := #[{ on := 2, ground := .data }, { on := 3, ground := .data }], guard := none }) (v := ?_) rfl (by kernel_rfl) (by kernel_rfl) (by kernel_rfl) (fun _ _ _ h => h) (Or.inl ⟨by rfl, ?_⟩) (by assumption) ?_
      rotate_left
      · intro w hSw
        go_simp
        first | done | with_reducible rfl
      try simp only [Act.put, List.setIfInBounds_toArray, List.set_cons_zero, List.set_cons_succ]
      refine wpAnyH_take (i := 5) (oi := { dst := some 153, op := .load 3 (.tmp 152), type := 3, pos := "two.go:275", after := #[{ on := 4, ground := .data }], guard := none }) (v := ?_) rfl (by kernel_rfl) (by kernel_rfl) (by kernel_rfl) (fun _ _ _ h => h) (Or.inl ⟨by rfl, ?_⟩) (by assumption) ?_
      rotate_left
      · intro w hSw
        go_simp
        first | done | with_reducible rfl
      try simp only [Act.put, List.setIfInBounds_toArray, List.set_cons_zero, List.set_cons_succ]
      refine wpAnyH_take (i := 6) (oi := { dst := some 154, op := .indexAddr 24 (.tmp 149) (.tmp 153), type := 0, pos := "two.go:275", after := #[{ on := 1, ground := .data }, { on := 5, ground := .data }], guard := none }) (v := ?_) rfl (by kernel_rfl) (by kernel_rfl) (by kernel_rfl) (fun _ _ _ h => h) (Or.inl ⟨by rfl, ?_⟩) (by assumption) ?_
      rotate_left
      · intro w hSw
        go_simp
        first | done | with_reducible rfl
      try simp only [Act.put, List.setIfInBounds_toArray, List.set_cons_zero, List.set_cons_succ]
      refine wpAnyH_take (i := 7) (oi := { dst := some 155, op := .fieldAddr 40 (.tmp 154) 1, type := 0, pos := "two.go:275", after := #[{ on := 6, ground := .data }], guard := none }) (v := ?_) rfl (by kernel_rfl) (by kernel_rfl) (by kernel_rfl) (fun _ _ _ h => h) (Or.inl ⟨by rfl, ?_⟩) (by assumption) ?_
      rotate_left
      · intro w hSw
        go_simp
        first | done | with_reducible rfl
      try simp only [Act.put, List.setIfInBounds_toArray, List.set_cons_zero, List.set_cons_succ]
      refine wpAnyH_take (i := 8) (oi := { dst := some 156, op := .load 22 (.tmp 155), type := 22, pos := "two.go:275", after := #[{ on := 7, ground := .data }], guard := none }) (v := ?_) rfl (by kernel_rfl) (by kernel_rfl) (by kernel_rfl) (fun _ _ _ h => h) (Or.inl ⟨by rfl, ?_⟩) (by assumption) ?_
      rotate_left
      · intro w hSw
        go_simp
        first | done | with_reducible rfl
      try simp only [Act.put, List.setIfInBounds_toArray, List.set_cons_zero, List.set_cons_succ]
      refine wpAnyH_ready (rs := [9, 14]) (by kernel_rfl) (by simp) ?_
      refine AllReadyH.cons (o := { dst := some 157, op := .call { callee := .value (.func 15), args := #[.tmp 148, .tmp 156], argTypes := #[38, 22] }, type := 42, pos := "two.go:275", after := #[{ on := 0, ground := .data }, { on := 8, ground := .data }], guard := none }) rfl (fun K hK => ?_) (AllReadyH.cons (o := { dst := some 17, op := .alloc 40, type := 0, pos := "two.go:275", after := #[], guard := none }) rfl (fun K hK => ?_) (AllReadyH.nil))
      · go_simp
        go_wp2_with (go_at_call 15; refine (CR.out _ (grow_drew (Below.refl _ _))).mono ?_; rintro e w9 ⟨qa, qc, ma, mc, rfl, hma, hb9⟩)
        have B9 : Hid (Below V.heap.size V w9) := grow_trans (grow_drew (Below.refl _ _)) hb9
        clear hHeld
        refine hK.out _ _ (KS.out _ B9.out) (fun hHeld => ?_)
        clear hK K
        refine wpAnyH_take (i := 10) (oi := { dst := some 147, op := .move (.tmp 157), type := 42, pos := "two.go:275", after := #[{ on := 9, ground := .data }], guard := none }) (v := ?_) rfl (by kernel_rfl) (by kernel_rfl) (by kernel_rfl) (fun _ _ _ h => h) (Or.inl ⟨by rfl, ?_⟩) (by assumption) ?_
        rotate_left
        · intro w hSw
          go_simp
          first | done | with_reducible rfl
        try simp only [Act.put, List.setIfInBounds_toArray, List.set_cons_zero, List.set_cons_succ]
        refine wpAnyH_take (i := 11) (oi := { dst := some 158, op := .extract (.tmp 147) 0, type := 40, pos := "two.go:275", after := #[{ on := 10, ground := .data }], guard := none }) (v := ?_) rfl (by kernel_rfl) (by kernel_rfl) (by kernel_rfl) (fun _ _ _ h => h) (Or.inl ⟨by rfl, ?_⟩) (by assumption) ?_
        rotate_left
        · intro w hSw
          go_simp
          first | done | with_reducible rfl
        try simp only [Act.put, List.setIfInBounds_toArray, List.set_cons_zero, List.set_cons_succ]
        refine wpAnyH_take (i := 12) (oi := { dst := some 159, op := .extract (.tmp 147) 1, type := 22, pos := "two.go:275", after := #[{ on := 10, ground := .data }, { on := 15, ground := .gcOnly Departure.lateStores }], guard := none }) (v := ?_) rfl (by kernel_rfl) (by kernel_rfl) (by kernel_rfl) (fun _ _ _ h => h) (Or.inl ⟨by rfl, ?_⟩) (by assumption) ?_
        rotate_left
        · intro w hSw
          go_simp
          first | done | with_reducible rfl
        try simp only [Act.put, List.setIfInBounds_toArray, List.set_cons_zero, List.set_cons_succ]
        refine wpAnyH_take (i := 13) (oi := { dst := some 160, op := .extract (.tmp 147) 2, type := 25, pos := "two.go:275", after := #[{ on := 10, ground := .data }, { on := 16, ground := .gcOnly Departure.lateStores }], guard := none }) (v := ?_) rfl (by kernel_rfl) (by kernel_rfl) (by kernel_rfl) (fun _ _ _ h => h) (Or.inl ⟨by rfl, ?_⟩) (by assumption) ?_
        rotate_left
        · intro w hSw
          go_simp
          first | done | with_reducible rfl
        try simp only [Act.put, List.setIfInBounds_toArray, List.set_cons_zero, List.set_cons_succ]
        refine wpAnyH_ready (rs := [14]) (by kernel_rfl) (by simp) ?_
        refine AllReadyH.cons (o := { dst := some 17, op := .alloc 40, type := 0, pos := "two.go:275", after := #[], guard := none }) rfl (fun K hK => ?_) (AllReadyH.nil)
        go_simp
        skip
        clear hHeld
        refine hK.out _ _ (KS.out _ (grow_alloc B9.out _)) (fun hHeld => ?_)
        clear hK K
        refine wpAnyH_ready (rs := [15]) (by kernel_rfl) (by simp) ?_
        refine AllReadyH.cons (o := { dst := none, op := .store 40 (.tmp 17) (.tmp 158), type := 0, pos := "two.go:275", after := #[{ on := 14, ground := .data }, { on := 11, ground := .data }, { on := 9, ground := .chain }, { on := 0, ground := .phase }, { on := 1, ground := .phase }, { on := 2, ground := .phase }, { on := 3, ground := .phase }, { on := 4, ground := .phase }, { on := 5, ground := .phase }, { on := 6, ground := .phase }, { on := 7, ground := .phase }, { on := 8, ground := .phase }, { on := 9, ground := .phase }, { on := 10, ground := .phase }, { on := 11, ground := .phase }, { on := 12, ground := .textOnly Departure.lateStores }, { on := 13, ground := .textOnly Departure.lateStores }, { on := 14, ground := .phase }], guard := none }) rfl (fun K hK => ?_) (AllReadyH.nil)
        go_simp
        have FB : Hid (Below V.heap.size V (w9.alloc (.cells #[.bool true, .slice qa Z.length qc] 40))) := grow_alloc B9.out _
        clear hHeld
        refine hK.out _ _ (KS.out _ FB.out) (fun hHeld => ?_)
        clear hK K
        refine wpAnyH_take (i := 16) (oi := { dst := some 18, op := .assign (.tmp 159), type := 22, pos := "two.go:275", after := #[{ on := 12, ground := .data }, { on := 15, ground := .chain }, { on := 0, ground := .phase }, { on := 1, ground := .phase }, { on := 2, ground := .phase }, { on := 3, ground := .phase }, { on := 4, ground := .phase }, { on := 5, ground := .phase }, { on := 6, ground := .phase }, { on := 7, ground := .phase }, { on := 8, ground := .phase }, { on := 9, ground := .phase }, { on := 10, ground := .phase }, { on := 11, ground := .phase }, { on := 12, ground := .phase }, { on := 13, ground := .textOnly Departure.lateStores }, { on := 14, ground := .phase }, { on := 15, ground := .phase }], guard := none }) (v := ?_) rfl (by kernel_rfl) (by kernel_rfl) (by kernel_rfl) (fun _ _ _ h => h) (Or.inl ⟨by rfl, ?_⟩) (by assumption) ?_
        rotate_left
        · intro w hSw
          go_simp
          first | done | with_reducible rfl
        try simp only [Act.put, List.setIfInBounds_toArray, List.set_cons_zero, List.set_cons_succ]
        refine wpAnyH_take (i := 17) (oi := { dst := some 19, op := .assign (.tmp 160), type := 25, pos := "two.go:275", after := #[{ on := 13, ground := .data }, { on := 16, ground := .chain }, { on := 0, ground := .phase }, { on := 1, ground := .phase }, { on := 2, ground := .phase }, { on := 3, ground := .phase }, { on := 4, ground := .phase }, { on := 5, ground := .phase }, { on := 6, ground := .phase }, { on := 7, ground := .phase }, { on := 8, ground := .phase }, { on := 9, ground := .phase }, { on := 10, ground := .phase }, { on := 11, ground := .phase }, { on := 12, ground := .phase }, { on := 13, ground := .phase }, { on := 14, ground := .phase }, { on := 15, ground := .phase }, { on := 16, ground := .phase }], guard := none }) (v := ?_) rfl (by kernel_rfl) (by kernel_rfl) (by kernel_rfl) (fun _ _ _ h => h) (Or.inl ⟨by rfl, ?_⟩) (by assumption) ?_
        rotate_left
        · intro w hSw
          go_simp
          first | done | with_reducible rfl
        try simp only [Act.put, List.setIfInBounds_toArray, List.set_cons_zero, List.set_cons_succ]
        refine wpAnyH_done (by kernel_rfl) ?_ _
        have HMA : Hid (IsInts (w9.alloc (.cells #[.bool true, .slice qa Z.length qc] 40)) ma (allS Z ss)) := (hma.below (grow_alloc (Below.refl _ _) _)).ints (by simp)
        obtain ⟨x0', x1', x2', x3', x4'⟩ := KS.out _ FB.out
        have BU : Hid (Below w.heap.size w (w9.alloc (.cells #[.bool true, .slice qa Z.length qc] 40))) := grow_trans BV.out FB.out
        have CBU := CBV.out _ FB.out
        clear hHeld KS hma hb9 B9 CR 
        generalize (w9.alloc (.cells #[.bool true, .slice qa Z.length qc] 40)) = U at *
        have CBH : Hid (U.cell? ⟨rb, ro + N * 2 + 1, none⟩ = some (.slice (some ⟨vb, vo, none⟩) rs.length vc) ∧ U.cell? ⟨vb, vo + i, none⟩ = some (.int .i64 val)) := CBU
        have HSU : Hid (IsSs U ta ss) := HSS.out.below FB.out
        clear CBU x0' x1' x3' x4' FB
        go_wp2
        go_loop [20] (fun q => ∃ j : Nat, j ≤ ss.length ∧ q = .int .i64 j ∧ Hid (∀ j', j' < j → ¬ (ss.getD j' s0).key = (K : Nat))) (fun q => ss.length - (intOf q).toNat)
        case atStart => exact ⟨0, Nat.zero_le _, rfl, fun j' h => absurd h (Nat.not_lt_zero _)⟩
        case round =>
          obtain ⟨j, hj, rfl, hno⟩ := hrel
          by_cases hlt : j < ss.length
          · obtain ⟨b5, o5, e5, _, s0', _⟩ := HSU.out j hlt
            obtain ⟨mb, mo, em, _, m0⟩ := HMA.out j (by rw [HAL.out]; exact hlt)
            subst e5 em
            have i5 : (j : Int) < (ss.length : Int) := by omega
            have i6 : (j : Int) < ((allS Z ss).length : Int) := by rw [HAL.out]; exact i5
            by_cases hkk : (ss.getD j s0).key = (K : Nat)
            · rw [hkk] at s0'
              have hv := HVAL.out j hlt hkk
              rw [← hv] at m0
              obtain ⟨cb0, cb1⟩ := CBH.out
              clear hno hkk hv
              go_upto_region 21 with fail
              have KQ : Hid (∀ w', Below U.heap.size U w' → w'.cell? ⟨rb, ro + N * 2 + 1, none⟩ = some (.slice (some ⟨vb, vo, none⟩) rs.length vc) ∧ w'.cell? ⟨vb, vo + i, none⟩ = some (.int .i64 val) ∧ w'.cell? ⟨mb, mo + j, none⟩ = some (.int .i64 val)) := fun w' hb => ⟨ext_cell hb cb0, ext_cell hb cb1, ext_cell hb m0⟩
              clear cb0 cb1 m0 s0'
              refine wp_region_held_drew (S := (fun w' => w'.cell? ⟨rb, ro + N * 2 + 1, none⟩ = some (.slice (some ⟨vb, vo, none⟩) rs.length vc) ∧ w'.cell? ⟨vb, vo + i, none⟩ = some (.int .i64 val) ∧ w'.cell? ⟨mb, mo + j, none⟩ = some (.int .i64 val))) (by kernel_rfl) ?_ (fun hHeld => ?_)
              · exact KQ.out _ (grow_drew (Below.refl _ _))
              refine wpAnyH_ready (rs := [0]) (by kernel_rfl) (by simp) ?_
              refine AllReadyH.cons (o := { dst := some 182, op := .call { callee := .value (.func 11), args := #[], argTypes := #[] }, type := 4, pos := "two.go:278", after := #[], guard := none }) rfl (fun K hK => ?_) (AllReadyH.nil)
              go_simp
              go_wp2_with (go_at_call 11; refine (auditBegun_any _).mono ?_; rintro e w8 ⟨rfl, hb8⟩)
              have B8 : Hid (Below U.heap.size U w8) := grow_trans (grow_drew (Below.refl _ _)) hb8
              clear hHeld
              refine hK.out _ _ (KQ.out _ B8.out) (fun hHeld => ?_)
              clear hK K
              refine wpAnyH_take (i := 1) (oi := { dst := some 183, op := .move (.tmp 182), type := 4, pos := "two.go:278", after := #[{ on := 0, ground := .data }, { on := 0, ground := .chain }], guard := none }) (v := ?_) rfl (by kernel_rfl) (by kernel_rfl) (by kernel_rfl) (fun _ _ _ h => h) (Or.inl ⟨by rfl, ?_⟩) (by assumption) ?_
              rotate_left
              · intro w hSw
                go_simp
                first | done | with_reducible rfl
              try simp only [Act.put, List.setIfInBounds_toArray, List.set_cons_zero, List.set_cons_succ]
              refine wpAnyH_take (i := 2) (oi := { dst := some 184, op := .move (.tmp 19), type := 25, pos := "two.go:278", after := #[{ on := 1, ground := .guard }], guard := some (1, true) }) (v := ?_) rfl (by kernel_rfl) (by kernel_rfl) (by kernel_rfl) (fun _ _ _ h => h) (Or.inl ⟨by rfl, ?_⟩) (by assumption) ?_
              rotate_left
              · intro w hSw
                go_simp
                first | done | with_reducible rfl
              try simp only [Act.put, List.setIfInBounds_toArray, List.set_cons_zero, List.set_cons_succ]
              refine wpAnyH_take (i := 3) (oi := { dst := some 185, op := .binOp .eql 25 (.tmp 184) (.const (.int .i64 0)) 25, type := 4, pos := "two.go:278", after := #[{ on := 2, ground := .data }, { on := 1, ground := .guard }], guard := some (1, true) }) (v := ?_) rfl (by kernel_rfl) (by kernel_rfl) (by kernel_rfl) (fun _ _ _ h => h) (Or.inl ⟨by rfl, ?_⟩) (by assumption) ?_
              rotate_left
              · intro w hSw
                go_simp
                first | done | with_reducible rfl
              try simp only [Act.put, List.setIfInBounds_toArray, List.set_cons_zero, List.set_cons_succ]
              refine wpAnyH_take (i := 4) (oi := { dst := some 186, op := .pick (.tmp 183) (.tmp 185) (.const (.bool false)), type := 4, pos := "two.go:278", after := #[{ on := 1, ground := .data }, { on := 3, ground := .data }], guard := none }) (v := ?_) rfl (by kernel_rfl) (by kernel_rfl) (by kernel_rfl) (fun _ _ _ h => h) (Or.inl ⟨by rfl, ?_⟩) (by assumption) ?_
              rotate_left
              · intro w hSw
                go_simp
                first | done | with_reducible rfl
              try simp only [Act.put, List.setIfInBounds_toArray, List.set_cons_zero, List.set_cons_succ]
              refine wpAnyH_take (i := 5) (oi := { dst := some 187, op := .move (.tmp 186), type := 4, pos := "two.go:278", after := #[{ on := 4, ground := .data }, { on := 1, ground := .chain }], guard := none }) (v := ?_) rfl (by kernel_rfl) (by kernel_rfl) (by kernel_rfl) (fun _ _ _ h => h) (Or.inl ⟨by rfl, ?_⟩) (by assumption) ?_
              rotate_left
              · intro w hSw
                go_simp
                first | done | with_reducible rfl
              try simp only [Act.put, List.setIfInBounds_toArray, List.set_cons_zero, List.set_cons_succ]
              refine wpAnyH_take (i := 6) (oi := { dst := some 188, op := .move (.tmp 18), type := 22, pos := "two.go:278", after := #[{ on := 5, ground := .guard }], guard := some (5, true) }) (v := ?_) rfl (by kernel_rfl) (by kernel_rfl) (by kernel_rfl) (fun _ _ _ h => h) (Or.inl ⟨by rfl, ?_⟩) (by assumption) ?_
              rotate_left
              · intro w hSw
                go_simp
                first | done | with_reducible rfl
              try simp only [Act.put, List.setIfInBounds_toArray, List.set_cons_zero, List.set_cons_succ]
              refine wpAnyH_take (i := 7) (oi := { dst := some 189, op := .move (.tmp 20), type := 3, pos := "two.go:278", after := #[{ on := 5, ground := .guard }], guard := some (5, true) }) (v := ?_) rfl (by kernel_rfl) (by kernel_rfl) (by kernel_rfl) (fun _ _ _ h => h) (Or.inl ⟨by rfl, ?_⟩) (by assumption) ?_
              rotate_left
              · intro w hSw
                go_simp
                first | done | with_reducible rfl
              try simp only [Act.put, List.setIfInBounds_toArray, List.set_cons_zero, List.set_cons_succ]
              refine wpAnyH_take (i := 8) (oi := { dst := some 190, op := .indexAddr 22 (.tmp 188) (.tmp 189), type := 0, pos := "two.go:278", after := #[{ on := 6, ground := .data }, { on := 7, ground := .data }, { on := 5, ground := .guard }], guard := some (5, true) }) (v := ?_) rfl (by kernel_rfl) (by kernel_rfl) (by kernel_rfl) (fun _ _ _ h => h) (Or.inl ⟨by rfl, ?_⟩) (by assumption) ?_
              rotate_left
              · intro w hSw
                go_simp
                first | done | with_reducible rfl
              try simp only [Act.put, List.setIfInBounds_toArray, List.set_cons_zero, List.set_cons_succ]
              refine wpAnyH_take (i := 9) (oi := { dst := some 191, op := .load 3 (.tmp 190), type := 3, pos := "two.go:278", after := #[{ on := 8, ground := .data }, { on := 5, ground := .guard }], guard := some (5, true) }) (v := ?_) rfl (by kernel_rfl) (by kernel_rfl) (by kernel_rfl) (fun _ _ _ h => h) (Or.inl ⟨by rfl, ?_⟩) (by assumption) ?_
              rotate_left
              · intro w hSw
                go_simp
                first | done | with_reducible rfl
              try simp only [Act.put, List.setIfInBounds_toArray, List.set_cons_zero, List.set_cons_succ]
              refine wpAnyH_take (i := 10) (oi := { dst := some 192, op := .move (.tmp 12), type := 24, pos := "two.go:278", after := #[{ on := 5, ground := .guard }], guard := some (5, true) }) (v := ?_) rfl (by kernel_rfl) (by kernel_rfl) (by kernel_rfl) (fun _ _ _ h => h) (Or.inl ⟨by rfl, ?_⟩) (by assumption) ?_
              rotate_left
              · intro w hSw
                go_simp
                first | done | with_reducible rfl
              try simp only [Act.put, List.setIfInBounds_toArray, List.set_cons_zero, List.set_cons_succ]
              refine wpAnyH_take (i := 11) (oi := { dst := some 193, op := .move (.tmp 2), type := 3, pos := "two.go:278", after := #[{ on := 5, ground := .guard }], guard := some (5, true) }) (v := ?_) rfl (by kernel_rfl) (by kernel_rfl) (by kernel_rfl) (fun _ _ _ h => h) (Or.inl ⟨by rfl, ?_⟩) (by assumption) ?_
              rotate_left
              · intro w hSw
                go_simp
                first | done | with_reducible rfl
              try simp only [Act.put, List.setIfInBounds_toArray, List.set_cons_zero, List.set_cons_succ]
              refine wpAnyH_take (i := 12) (oi := { dst := some 194, op := .indexAddr 24 (.tmp 192) (.tmp 193), type := 0, pos := "two.go:278", after := #[{ on := 10, ground := .data }, { on := 11, ground := .data }, { on := 5, ground := .guard }], guard := some (5, true) }) (v := ?_) rfl (by kernel_rfl) (by kernel_rfl) (by kernel_rfl) (fun _ _ _ h => h) (Or.inl ⟨by rfl, ?_⟩) (by assumption) ?_
              rotate_left
              · intro w hSw
                go_simp
                first | done | with_reducible rfl
              try simp only [Act.put, List.setIfInBounds_toArray, List.set_cons_zero, List.set_cons_succ]
              refine wpAnyH_take (i := 13) (oi := { dst := some 195, op := .fieldAddr 40 (.tmp 194) 1, type := 0, pos := "two.go:278", after := #[{ on := 12, ground := .data }, { on := 5, ground := .guard }], guard := some (5, true) }) (v := ?_) rfl (by kernel_rfl) (by kernel_rfl) (by kernel_rfl) (fun _ _ _ h => h) (Or.inl ⟨by rfl, ?_⟩) (by assumption) ?_
              rotate_left
              · intro w hSw
                go_simp
                first | done | with_reducible rfl
              try simp only [Act.put, List.setIfInBounds_toArray, List.set_cons_zero, List.set_cons_succ]
              refine wpAnyH_take (i := 14) (oi := { dst := some 196, op := .load 22 (.tmp 195), type := 22, pos := "two.go:278", after := #[{ on := 13, ground := .data }, { on := 5, ground := .guard }], guard := some (5, true) }) (v := ?_) rfl (by kernel_rfl) (by kernel_rfl) (by kernel_rfl) (fun _ _ _ h => h) (Or.inl ⟨by rfl, ?_⟩) (by assumption) ?_
              rotate_left
              · intro w hSw
                go_simp
                first | done | with_reducible rfl
              try simp only [Act.put, List.setIfInBounds_toArray, List.set_cons_zero, List.set_cons_succ]
              refine wpAnyH_take (i := 15) (oi := { dst := some 197, op := .move (.tmp 14), type := 3, pos := "two.go:278", after := #[{ on := 5, ground := .guard }], guard := some (5, true) }) (v := ?_) rfl (by kernel_rfl) (by kernel_rfl) (by kernel_rfl) (fun _ _ _ h => h) (Or.inl ⟨by rfl, ?_⟩) (by assumption) ?_
              rotate_left
              · intro w hSw
                go_simp
                first | done | with_reducible rfl
              try simp only [Act.put, List.setIfInBounds_toArray, List.set_cons_zero, List.set_cons_succ]
              refine wpAnyH_take (i := 16) (oi := { dst := some 198, op := .indexAddr 22 (.tmp 196) (.tmp 197), type := 0, pos := "two.go:278", after := #[{ on := 14, ground := .data }, { on := 15, ground := .data }, { on := 5, ground := .guard }], guard := some (5, true) }) (v := ?_) rfl (by kernel_rfl) (by kernel_rfl) (by kernel_rfl) (fun _ _ _ h => h) (Or.inl ⟨by rfl, ?_⟩) (by assumption) ?_
              rotate_left
              · intro w hSw
                go_simp
                first | done | with_reducible rfl
              try simp only [Act.put, List.setIfInBounds_toArray, List.set_cons_zero, List.set_cons_succ]
              refine wpAnyH_take (i := 17) (oi := { dst := some 199, op := .load 3 (.tmp 198), type := 3, pos := "two.go:278", after := #[{ on := 16, ground := .data }, { on := 5, ground := .guard }], guard := some (5, true) }) (v := ?_) rfl (by kernel_rfl) (by kernel_rfl) (by kernel_rfl) (fun _ _ _ h => h) (Or.inl ⟨by rfl, ?_⟩) (by assumption) ?_
              rotate_left
              · intro w hSw
                go_simp
                first | done | with_reducible rfl
              try simp only [Act.put, List.setIfInBounds_toArray, List.set_cons_zero, List.set_cons_succ]
              refine wpAnyH_take (i := 18) (oi := { dst := some 200, op := .binOp .eql 3 (.tmp 191) (.tmp 199) 3, type := 4, pos := "two.go:278", after := #[{ on := 9, ground := .data }, { on := 17, ground := .data }, { on := 5, ground := .guard }], guard := some (5, true) }) (v := ?_) rfl (by kernel_rfl) (by kernel_rfl) (by kernel_rfl) (fun _ _ _ h => h) (Or.inl ⟨by rfl, ?_⟩) (by assumption) ?_
              rotate_left
              · intro w hSw
                go_simp
                first | done | with_reducible rfl
              try simp only [Act.put, List.setIfInBounds_toArray, List.set_cons_zero, List.set_cons_succ]
              refine wpAnyH_take (i := 19) (oi := { dst := some 201, op := .pick (.tmp 187) (.tmp 200) (.const (.bool false)), type := 4, pos := "two.go:278", after := #[{ on := 5, ground := .data }, { on := 18, ground := .data }], guard := none }) (v := ?_) rfl (by kernel_rfl) (by kernel_rfl) (by kernel_rfl) (fun _ _ _ h => h) (Or.inl ⟨by rfl, ?_⟩) (by assumption) ?_
              rotate_left
              · intro w hSw
                go_simp
                first | done | with_reducible rfl
              try simp only [Act.put, List.setIfInBounds_toArray, List.set_cons_zero, List.set_cons_succ]
              refine wpAnyH_take (i := 20) (oi := { dst := some 8, op := .assign (.tmp 201), type := 4, pos := "two.go:278", after := #[{ on := 19, ground := .data }, { on := 5, ground := .chain }, { on := 0, ground := .phase }, { on := 1, ground := .phase }, { on := 2, ground := .phase }, { on := 3, ground := .phase }, { on := 4, ground := .phase }, { on := 5, ground := .phase }, { on := 6, ground := .phase }, { on := 7, ground := .phase }, { on := 8, ground := .phase }, { on := 9, ground := .phase }, { on := 10, ground := .phase }, { on := 11, ground := .phase }, { on := 12, ground := .phase }, { on := 13, ground := .phase }, { on := 14, ground := .phase }, { on := 15, ground := .phase }, { on := 16, ground := .phase }, { on := 17, ground := .phase }, { on := 18, ground := .phase }, { on := 19, ground := .phase }], guard := none }) (v := ?_) rfl (by kernel_rfl) (by kernel_rfl) (by kernel_rfl) (fun _ _ _ h => h) (Or.inl ⟨by rfl, ?_⟩) (by assumption) ?_
              rotate_left
              · intro w hSw
                go_simp
                first | done | with_reducible rfl
              try simp only [Act.put, List.setIfInBounds_toArray, List.set_cons_zero, List.set_cons_succ]
              refine wpAnyH_done (by kernel_rfl) ?_ _
              clear hHeld KQ
              go_wp2
              go_ret
              exact ⟨rfl, grow_trans BU.out B8.out⟩
            · have hb' : ((ss.getD j s0).key == ((K : Nat) : Int)) = false := by simpa using hkk
              have HN1 : Hid (∀ j', j' < j + 1 → ¬ (ss.getD j' s0).key = (K : Nat)) := fun j' h => by
                by_cases e : j' = j
                · rw [e]; exact hkk
                · exact hno.out j' (by omega)
              generalize (ss.getD j s0).key = kj at *
              clear hkk hno m0
              go_wp2
              go_round
              case rel => exact ⟨j + 1, by omega, by go_num, HN1⟩
              case measure => simp [intOf]; omega
          · obtain ⟨j0, h0, h1⟩ := HEX.out
            exact absurd h1 (hno.out j0 (by omega))
      · go_simp
        skip
        clear hHeld
        refine hK.out _ _ (KS.out _ (grow_drew (grow_alloc (Below.refl _ _) _))) (fun hHeld => ?_)
        clear hK K
        refine wpAnyH_ready (rs := [9]) (by kernel_rfl) (by simp) ?_
        refine AllReadyH.cons (o := { dst := some 157, op := .call { callee := .value (.func 15), args := #[.tmp 148, .tmp 156], argTypes := #[38, 22] }, type := 42, pos := "two.go:275", after := #[{ on := 0, ground := .data }, { on := 8, ground := .data }], guard := none }) rfl (fun K hK => ?_) (AllReadyH.nil)
        go_simp
        go_wp2_with (go_at_call 15; refine (CR.out _ (grow_drew (grow_alloc (Below.refl _ _) _))).mono ?_; rintro e w9 ⟨qa, qc, ma, mc, rfl, hma, hb9⟩)
        have B9 : Hid (Below V.heap.size V w9) := grow_trans (grow_drew (grow_alloc (Below.refl _ _) _)) hb9
        have f0 : w9.cell? ⟨V.heap.size, 0, none⟩ = some (.bool false) := ext_cell hb9 (at_new V _ 40 _ 0 _ rfl rfl)
        have f1 : w9.cell? ⟨V.heap.size, 1, none⟩ = some (.slice none 0 0) := ext_cell hb9 (at_new V _ 40 _ 1 _ rfl rfl)
        have ff : ∀ j, w9.frozen? ⟨V.heap.size, j, none⟩ = false := fun j => (hb9.frozen (p := ⟨V.heap.size, j, none⟩) (by simp)).trans (frozen_new V _ 40 _ j rfl)
        have FB : Hid (Below V.heap.size V ((w9.setCell ⟨V.heap.size, 0, none⟩ (.bool true)).setCell ⟨V.heap.size, 1, none⟩ (.slice qa Z.length qc))) := grow_set (grow_set B9.out (Nat.le_refl _) _) (Nat.le_refl _) _
        clear hHeld
        refine hK.out _ _ (KS.out _ B9.out) (fun hHeld => ?_)
        clear hK K
        refine wpAnyH_take (i := 10) (oi := { dst := some 147, op := .move (.tmp 157), type := 42, pos := "two.go:275", after := #[{ on := 9, ground := .data }], guard := none }) (v := ?_) rfl (by kernel_rfl) (by kernel_rfl) (by kernel_rfl) (fun _ _ _ h => h) (Or.inl ⟨by rfl, ?_⟩) (by assumption) ?_
        rotate_left
        · intro w hSw
          go_simp
          first | done | with_reducible rfl
        try simp only [Act.put, List.setIfInBounds_toArray, List.set_cons_zero, List.set_cons_succ]
        refine wpAnyH_take (i := 11) (oi := { dst := some 158, op := .extract (.tmp 147) 0, type := 40, pos := "two.go:275", after := #[{ on := 10, ground := .data }], guard := none }) (v := ?_) rfl (by kernel_rfl) (by kernel_rfl) (by kernel_rfl) (fun _ _ _ h => h) (Or.inl ⟨by rfl, ?_⟩) (by assumption) ?_
        rotate_left
        · intro w hSw
          go_simp
          first | done | with_reducible rfl
        try simp only [Act.put, List.setIfInBounds_toArray, List.set_cons_zero, List.set_cons_succ]
        refine wpAnyH_take (i := 12) (oi := { dst := some 159, op := .extract (.tmp 147) 1, type := 22, pos := "two.go:275", after := #[{ on := 10, ground := .data }, { on := 15, ground := .gcOnly Departure.lateStores }], guard := none }) (v := ?_) rfl (by kernel_rfl) (by kernel_rfl) (by kernel_rfl) (fun _ _ _ h => h) (Or.inl ⟨by rfl, ?_⟩) (by assumption) ?_
        rotate_left
        · intro w hSw
          go_simp
          first | done | with_reducible rfl
        try simp only [Act.put, List.setIfInBounds_toArray, List.set_cons_zero, List.set_cons_succ]
        refine wpAnyH_take (i := 13) (oi := { dst := some 160, op := .extract (.tmp 147) 2, type := 25, pos := "two.go:275", after := #[{ on := 10, ground := .data }, { on := 16, ground := .gcOnly Departure.lateStores }], guard := none }) (v := ?_) rfl (by kernel_rfl) (by kernel_rfl) (by kernel_rfl) (fun _ _ _ h => h) (Or.inl ⟨by rfl, ?_⟩) (by assumption) ?_
        rotate_left
        · intro w hSw
          go_simp
          first | done | with_reducible rfl
        try simp only [Act.put, List.setIfInBounds_toArray, List.set_cons_zero, List.set_cons_succ]
        refine wpAnyH_ready (rs := [15]) (by kernel_rfl) (by simp) ?_
        refine AllReadyH.cons (o := { dst := none, op := .store 40 (.tmp 17) (.tmp 158), type := 0, pos := "two.go:275", after := #[{ on := 14, ground := .data }, { on := 11, ground := .data }, { on := 9, ground := .chain }, { on := 0, ground := .phase }, { on := 1, ground := .phase }, { on := 2, ground := .phase }, { on := 3, ground := .phase }, { on := 4, ground := .phase }, { on := 5, ground := .phase }, { on := 6, ground := .phase }, { on := 7, ground := .phase }, { on := 8, ground := .phase }, { on := 9, ground := .phase }, { on := 10, ground := .phase }, { on := 11, ground := .phase }, { on := 12, ground := .textOnly Departure.lateStores }, { on := 13, ground := .textOnly Departure.lateStores }, { on := 14, ground := .phase }], guard := none }) rfl (fun K hK => ?_) (AllReadyH.nil)
        go_simp
        skip
        clear hHeld
        refine hK.out _ _ (KS.out _ FB.out) (fun hHeld => ?_)
        clear hK K
        refine wpAnyH_take (i := 16) (oi := { dst := some 18, op := .assign (.tmp 159), type := 22, pos := "two.go:275", after := #[{ on := 12, ground := .data }, { on := 15, ground := .chain }, { on := 0, ground := .phase }, { on := 1, ground := .phase }, { on := 2, ground := .phase }, { on := 3, ground := .phase }, { on := 4, ground := .phase }, { on := 5, ground := .phase }, { on := 6, ground := .phase }, { on := 7, ground := .phase }, { on := 8, ground := .phase }, { on := 9, ground := .phase }, { on := 10, ground := .phase }, { on := 11, ground := .phase }, { on := 12, ground := .phase }, { on := 13, ground := .textOnly Departure.lateStores }, { on := 14, ground := .phase }, { on := 15, ground := .phase }], guard := none }) (v := ?_) rfl (by kernel_rfl) (by kernel_rfl) (by kernel_rfl) (fun _ _ _ h => h) (Or.inl ⟨by rfl, ?_⟩) (by assumption) ?_
        rotate_left
        · intro w hSw
          go_simp
          first | done | with_reducible rfl
        try simp only [Act.put, List.setIfInBounds_toArray, List.set_cons_zero, List.set_cons_succ]
        refine wpAnyH_take (i := 17) (oi := { dst := some 19, op := .assign (.tmp 160), type := 25, pos := "two.go:275", after := #[{ on := 13, ground := .data }, { on := 16, ground := .chain }, { on := 0, ground := .phase }, { on := 1, ground := .phase }, { on := 2, ground := .phase }, { on := 3, ground := .phase }, { on := 4, ground := .phase }, { on := 5, ground := .phase }, { on := 6, ground := .phase }, { on := 7, ground := .phase }, { on := 8, ground := .phase }, { on := 9, ground := .phase }, { on := 10, ground := .phase }, { on := 11, ground := .phase }, { on := 12, ground := .phase }, { on := 13, ground := .phase }, { on := 14, ground := .phase }, { on := 15, ground := .phase }, { on := 16, ground := .phase }], guard := none }) (v := ?_) rfl (by kernel_rfl) (by kernel_rfl) (by kernel_rfl) (fun _ _ _ h => h) (Or.inl ⟨by rfl, ?_⟩) (by assumption) ?_
        rotate_left
        · intro w hSw
          go_simp
          first | done | with_reducible rfl
        try simp only [Act.put, List.setIfInBounds_toArray, List.set_cons_zero, List.set_cons_succ]
        refine wpAnyH_done (by kernel_rfl) ?_ _
        have HMA : Hid (IsInts ((w9.setCell ⟨V.heap.size, 0, none⟩ (.bool true)).setCell ⟨V.heap.size, 1, none⟩ (.slice qa Z.length qc)) ma (allS Z ss)) := ((hma.set ⟨V.heap.size, 0, none⟩ _ (.inl (by simp))).set ⟨V.heap.size, 1, none⟩ _ (.inl (by simp))).ints (by simp)
        obtain ⟨x0', x1', x2', x3', x4'⟩ := KS.out _ FB.out
        have BU : Hid (Below w.heap.size w ((w9.setCell ⟨V.heap.size, 0, none⟩ (.bool true)).setCell ⟨V.heap.size, 1, none⟩ (.slice qa Z.length qc))) := grow_trans BV.out FB.out
        have CBU := CBV.out _ FB.out
        clear hHeld KS hma hb9 B9 CR f0 f1 ff
        generalize ((w9.setCell ⟨V.heap.size, 0, none⟩ (.bool true)).setCell ⟨V.heap.size, 1, none⟩ (.slice qa Z.length qc)) = U at *
        have CBH : Hid (U.cell? ⟨rb, ro + N * 2 + 1, none⟩ = some (.slice (some ⟨vb, vo, none⟩) rs.length vc) ∧ U.cell? ⟨vb, vo + i, none⟩ = some (.int .i64 val)) := CBU
        have HSU : Hid (IsSs U ta ss) := HSS.out.below FB.out
        clear CBU x0' x1' x3' x4' FB
        go_wp2
        go_loop [20] (fun q => ∃ j : Nat, j ≤ ss.length ∧ q = .int .i64 j ∧ Hid (∀ j', j' < j → ¬ (ss.getD j' s0).key = (K : Nat))) (fun q => ss.length - (intOf q).toNat)
        case atStart => exact ⟨0, Nat.zero_le _, rfl, fun j' h => absurd h (Nat.not_lt_zero _)⟩
        case round =>
          obtain ⟨j, hj, rfl, hno⟩ := hrel
          by_cases hlt : j < ss.length
          · obtain ⟨b5, o5, e5, _, s0', _⟩ := HSU.out j hlt
            obtain ⟨mb, mo, em, _, m0⟩ := HMA.out j (by rw [HAL.out]; exact hlt)
            subst e5 em
            have i5 : (j : Int) < (ss.length : Int) := by omega
            have i6 : (j : Int) < ((allS Z ss).length : Int) := by rw [HAL.out]; exact i5
            by_cases hkk : (ss.getD j s0).key = (K : Nat)
            · rw [hkk] at s0'
              have hv := HVAL.out j hlt hkk
              rw [← hv] at m0
              obtain ⟨cb0, cb1⟩ := CBH.out
              clear hno hkk hv
              go_upto_region 21 with fail
              have KQ : Hid (∀ w', Below U.heap.size U w' → w'.cell? ⟨rb, ro + N * 2 + 1, none⟩ = some (.slice (some ⟨vb, vo, none⟩) rs.length vc) ∧ w'.cell? ⟨vb, vo + i, none⟩ = some (.int .i64 val) ∧ w'.cell? ⟨mb, mo + j, none⟩ = some (.int .i64 val)) := fun w' hb => ⟨ext_cell hb cb0, ext_cell hb cb1, ext_cell hb m0⟩
              clear cb0 cb1 m0 s0'
              refine wp_region_held_drew (S := (fun w' => w'.cell? ⟨rb, ro + N * 2 + 1, none⟩ = some (.slice (some ⟨vb, vo, none⟩) rs.length vc) ∧ w'.cell? ⟨vb, vo + i, none⟩ = some (.int .i64 val) ∧ w'.cell? ⟨mb, mo + j, none⟩ = some (.int .i64 val))) (by kernel_rfl) ?_ (fun hHeld => ?_)
              · exact KQ.out _ (grow_drew (Below.refl _ _))
              refine wpAnyH_ready (rs := [0]) (by kernel_rfl) (by simp) ?_
              refine AllReadyH.cons (o := { dst := some 182, op := .call { callee := .value (.func 11), args := #[], argTypes := #[] }, type := 4, pos := "two.go:278", after := #[], guard := none }) rfl (fun K hK => ?_) (AllReadyH.nil)
              go_simp
              go_wp2_with (go_at_call 11; refine (auditBegun_any _).mono ?_; rintro e w8 ⟨rfl, hb8⟩)
              have B8 : Hid (Below U.heap.size U w8) := grow_trans (grow_drew (Below.refl _ _)) hb8
              clear hHeld
              refine hK.out _ _ (KQ.out _ B8.out) (fun hHeld => ?_)
              clear hK K
              refine wpAnyH_take (i := 1) (oi := { dst := some 183, op := .move (.tmp 182), type := 4, pos := "two.go:278", after := #[{ on := 0, ground := .data }, { on := 0, ground := .chain }], guard := none }) (v := ?_) rfl (by kernel_rfl) (by kernel_rfl) (by kernel_rfl) (fun _ _ _ h => h) (Or.inl ⟨by rfl, ?_⟩) (by assumption) ?_
              rotate_left
              · intro w hSw
                go_simp
                first | done | with_reducible rfl
              try simp only [Act.put, List.setIfInBounds_toArray, List.set_cons_zero, List.set_cons_succ]
              refine wpAnyH_take (i := 2) (oi := { dst := some 184, op := .move (.tmp 19), type := 25, pos := "two.go:278", after := #[{ on := 1, ground := .guard }], guard := some (1, true) }) (v := ?_) rfl (by kernel_rfl) (by kernel_rfl) (by kernel_rfl) (fun _ _ _ h => h) (Or.inl ⟨by rfl, ?_⟩) (by assumption) ?_
              rotate_left
              · intro w hSw
                go_simp
                first | done | with_reducible rfl
              try simp only [Act.put, List.setIfInBounds_toArray, List.set_cons_zero, List.set_cons_succ]
              refine wpAnyH_take (i := 3) (oi := { dst := some 185, op := .binOp .eql 25 (.tmp 184) (.const (.int .i64 0)) 25, type := 4, pos := "two.go:278", after := #[{ on := 2, ground := .data }, { on := 1, ground := .guard }], guard := some (1, true) }) (v := ?_) rfl (by kernel_rfl) (by kernel_rfl) (by kernel_rfl) (fun _ _ _ h => h) (Or.inl ⟨by rfl, ?_⟩) (by assumption) ?_
              rotate_left
              · intro w hSw
                go_simp
                first | done | with_reducible rfl
              try simp only [Act.put, List.setIfInBounds_toArray, List.set_cons_zero, List.set_cons_succ]
              refine wpAnyH_take (i := 4) (oi := { dst := some 186, op := .pick (.tmp 183) (.tmp 185) (.const (.bool false)), type := 4, pos := "two.go:278", after := #[{ on := 1, ground := .data }, { on := 3, ground := .data }], guard := none }) (v := ?_) rfl (by kernel_rfl) (by kernel_rfl) (by kernel_rfl) (fun _ _ _ h => h) (Or.inl ⟨by rfl, ?_⟩) (by assumption) ?_
              rotate_left
              · intro w hSw
                go_simp
                first | done | with_reducible rfl
              try simp only [Act.put, List.setIfInBounds_toArray, List.set_cons_zero, List.set_cons_succ]
              refine wpAnyH_take (i := 5) (oi := { dst := some 187, op := .move (.tmp 186), type := 4, pos := "two.go:278", after := #[{ on := 4, ground := .data }, { on := 1, ground := .chain }], guard := none }) (v := ?_) rfl (by kernel_rfl) (by kernel_rfl) (by kernel_rfl) (fun _ _ _ h => h) (Or.inl ⟨by rfl, ?_⟩) (by assumption) ?_
              rotate_left
              · intro w hSw
                go_simp
                first | done | with_reducible rfl
              try simp only [Act.put, List.setIfInBounds_toArray, List.set_cons_zero, List.set_cons_succ]
              refine wpAnyH_take (i := 6) (oi := { dst := some 188, op := .move (.tmp 18), type := 22, pos := "two.go:278", after := #[{ on := 5, ground := .guard }], guard := some (5, true) }) (v := ?_) rfl (by kernel_rfl) (by kernel_rfl) (by kernel_rfl) (fun _ _ _ h => h) (Or.inl ⟨by rfl, ?_⟩) (by assumption) ?_
              rotate_left
              · intro w hSw
                go_simp
                first | done | with_reducible rfl
              try simp only [Act.put, List.setIfInBounds_toArray, List.set_cons_zero, List.set_cons_succ]
              refine wpAnyH_take (i := 7) (oi := { dst := some 189, op := .move (.tmp 20), type := 3, pos := "two.go:278", after := #[{ on := 5, ground := .guard }], guard := some (5, true) }) (v := ?_) rfl (by kernel_rfl) (by kernel_rfl) (by kernel_rfl) (fun _ _ _ h => h) (Or.inl ⟨by rfl, ?_⟩) (by assumption) ?_
              rotate_left
              · intro w hSw
                go_simp
                first | done | with_reducible rfl
              try simp only [Act.put, List.setIfInBounds_toArray, List.set_cons_zero, List.set_cons_succ]
              refine wpAnyH_take (i := 8) (oi := { dst := some 190, op := .indexAddr 22 (.tmp 188) (.tmp 189), type := 0, pos := "two.go:278", after := #[{ on := 6, ground := .data }, { on := 7, ground := .data }, { on := 5, ground := .guard }], guard := some (5, true) }) (v := ?_) rfl (by kernel_rfl) (by kernel_rfl) (by kernel_rfl) (fun _ _ _ h => h) (Or.inl ⟨by rfl, ?_⟩) (by assumption) ?_
              rotate_left
              · intro w hSw
                go_simp
                first | done | with_reducible rfl
              try simp only [Act.put, List.setIfInBounds_toArray, List.set_cons_zero, List.set_cons_succ]
              refine wpAnyH_take (i := 9) (oi := { dst := some 191, op := .load 3 (.tmp 190), type := 3, pos := "two.go:278", after := #[{ on := 8, ground := .data }, { on := 5, ground := .guard }], guard := some (5, true) }) (v := ?_) rfl (by kernel_rfl) (by kernel_rfl) (by kernel_rfl) (fun _ _ _ h => h) (Or.inl ⟨by rfl, ?_⟩) (by assumption) ?_
              rotate_left
              · intro w hSw
                go_simp
                first | done | with_reducible rfl
              try simp only [Act.put, List.setIfInBounds_toArray, List.set_cons_zero, List.set_cons_succ]
              refine wpAnyH_take (i := 10) (oi := { dst := some 192, op := .move (.tmp 12), type := 24, pos := "two.go:278", after := #[{ on := 5, ground := .guard }], guard := some (5, true) }) (v := ?_) rfl (by kernel_rfl) (by kernel_rfl) (by kernel_rfl) (fun _ _ _ h => h) (Or.inl ⟨by rfl, ?_⟩) (by assumption) ?_
              rotate_left
              · intro w hSw
                go_simp
                first | done | with_reducible rfl
              try simp only [Act.put, List.setIfInBounds_toArray, List.set_cons_zero, List.set_cons_succ]
              refine wpAnyH_take (i := 11) (oi := { dst := some 193, op := .move (.tmp 2), type := 3, pos := "two.go:278", after := #[{ on := 5, ground := .guard }], guard := some (5, true) }) (v := ?_) rfl (by kernel_rfl) (by kernel_rfl) (by kernel_rfl) (fun _ _ _ h => h) (Or.inl ⟨by rfl, ?_⟩) (by assumption) ?_
              rotate_left
              · intro w hSw
                go_simp
                first | done | with_reducible rfl
              try simp only [Act.put, List.setIfInBounds_toArray, List.set_cons_zero, List.set_cons_succ]
              refine wpAnyH_take (i := 12) (oi := { dst := some 194, op := .indexAddr 24 (.tmp 192) (.tmp 193), type := 0, pos := "two.go:278", after := #[{ on := 10, ground := .data }, { on := 11, ground := .data }, { on := 5, ground := .guard }], guard := some (5, true) }) (v := ?_) rfl (by kernel_rfl) (by kernel_rfl) (by kernel_rfl) (fun _ _ _ h => h) (Or.inl ⟨by rfl, ?_⟩) (by assumption) ?_
              rotate_left
              · intro w hSw
                go_simp
                first | done | with_reducible rfl
              try simp only [Act.put, List.setIfInBounds_toArray, List.set_cons_zero, List.set_cons_succ]
              refine wpAnyH_take (i := 13) (oi := { dst := some 195, op := .fieldAddr 40 (.tmp 194) 1, type := 0, pos := "two.go:278", after := #[{ on := 12, ground := .data }, { on := 5, ground := .guard }], guard := some (5, true) }) (v := ?_) rfl (by kernel_rfl) (by kernel_rfl) (by kernel_rfl) (fun _ _ _ h => h) (Or.inl ⟨by rfl, ?_⟩) (by assumption) ?_
              rotate_left
              · intro w hSw
                go_simp
                first | done | with_reducible rfl
              try simp only [Act.put, List.setIfInBounds_toArray, List.set_cons_zero, List.set_cons_succ]
              refine wpAnyH_take (i := 14) (oi := { dst := some 196, op := .load 22 (.tmp 195), type := 22, pos := "two.go:278", after := #[{ on := 13, ground := .data }, { on := 5, ground := .guard }], guard := some (5, true) }) (v := ?_) rfl (by kernel_rfl) (by kernel_rfl) (by kernel_rfl) (fun _ _ _ h => h) (Or.inl ⟨by rfl, ?_⟩) (by assumption) ?_
              rotate_left
              · intro w hSw
                go_simp
                first | done | with_reducible rfl
              try simp only [Act.put, List.setIfInBounds_toArray, List.set_cons_zero, List.set_cons_succ]
              refine wpAnyH_take (i := 15) (oi := { dst := some 197, op := .move (.tmp 14), type := 3, pos := "two.go:278", after := #[{ on := 5, ground := .guard }], guard := some (5, true) }) (v := ?_) rfl (by kernel_rfl) (by kernel_rfl) (by kernel_rfl) (fun _ _ _ h => h) (Or.inl ⟨by rfl, ?_⟩) (by assumption) ?_
              rotate_left
              · intro w hSw
                go_simp
                first | done | with_reducible rfl
              try simp only [Act.put, List.setIfInBounds_toArray, List.set_cons_zero, List.set_cons_succ]
              refine wpAnyH_take (i := 16) (oi := { dst := some 198, op := .indexAddr 22 (.tmp 196) (.tmp 197), type := 0, pos := "two.go:278", after := #[{ on := 14, ground := .data }, { on := 15, ground := .data }, { on := 5, ground := .guard }], guard := some (5, true) }) (v := ?_) rfl (by kernel_rfl) (by kernel_rfl) (by kernel_rfl) (fun _ _ _ h => h) (Or.inl ⟨by rfl, ?_⟩) (by assumption) ?_
              rotate_left
              · intro w hSw
                go_simp
                first | done | with_reducible rfl
              try simp only [Act.put, List.setIfInBounds_toArray, List.set_cons_zero, List.set_cons_succ]
              refine wpAnyH_take (i := 17) (oi := { dst := some 199, op := .load 3 (.tmp 198), type := 3, pos := "two.go:278", after := #[{ on := 16, ground := .data }, { on := 5, ground := .guard }], guard := some (5, true) }) (v := ?_) rfl (by kernel_rfl) (by kernel_rfl) (by kernel_rfl) (fun _ _ _ h => h) (Or.inl ⟨by rfl, ?_⟩) (by assumption) ?_
              rotate_left
              · intro w hSw
                go_simp
                first | done | with_reducible rfl
              try simp only [Act.put, List.setIfInBounds_toArray, List.set_cons_zero, List.set_cons_succ]
              refine wpAnyH_take (i := 18) (oi := { dst := some 200, op := .binOp .eql 3 (.tmp 191) (.tmp 199) 3, type := 4, pos := "two.go:278", after := #[{ on := 9, ground := .data }, { on := 17, ground := .data }, { on := 5, ground := .guard }], guard := some (5, true) }) (v := ?_) rfl (by kernel_rfl) (by kernel_rfl) (by kernel_rfl) (fun _ _ _ h => h) (Or.inl ⟨by rfl, ?_⟩) (by assumption) ?_
              rotate_left
              · intro w hSw
                go_simp
                first | done | with_reducible rfl
              try simp only [Act.put, List.setIfInBounds_toArray, List.set_cons_zero, List.set_cons_succ]
              refine wpAnyH_take (i := 19) (oi := { dst := some 201, op := .pick (.tmp 187) (.tmp 200) (.const (.bool false)), type := 4, pos := "two.go:278", after := #[{ on := 5, ground := .data }, { on := 18, ground := .data }], guard := none }) (v := ?_) rfl (by kernel_rfl) (by kernel_rfl) (by kernel_rfl) (fun _ _ _ h => h) (Or.inl ⟨by rfl, ?_⟩) (by assumption) ?_
              rotate_left
              · intro w hSw
                go_simp
                first | done | with_reducible rfl
              try simp only [Act.put, List.setIfInBounds_toArray, List.set_cons_zero, List.set_cons_succ]
              refine wpAnyH_take (i := 20) (oi := { dst := some 8, op := .assign (.tmp 201), type := 4, pos := "two.go:278", after := #[{ on := 19, ground := .data }, { on := 5, ground := .chain }, { on := 0, ground := .phase }, { on := 1, ground := .phase }, { on := 2, ground := .phase }, { on := 3, ground := .phase }, { on := 4, ground := .phase }, { on := 5, ground := .phase }, { on := 6, ground := .phase }, { on := 7, ground := .phase }, { on := 8, ground := .phase }, { on := 9, ground := .phase }, { on := 10, ground := .phase }, { on := 11, ground := .phase }, { on := 12, ground := .phase }, { on := 13, ground := .phase }, { on := 14, ground := .phase }, { on := 15, ground := .phase }, { on := 16, ground := .phase }, { on := 17, ground := .phase }, { on := 18, ground := .phase }, { on := 19, ground := .phase }], guard := none }) (v := ?_) rfl (by kernel_rfl) (by kernel_rfl) (by kernel_rfl) (fun _ _ _ h => h) (Or.inl ⟨by rfl, ?_⟩) (by assumption) ?_
              rotate_left
              · intro w hSw
                go_simp
                first | done | with_reducible rfl
              try simp only [Act.put, List.setIfInBounds_toArray, List.set_cons_zero, List.set_cons_succ]
              refine wpAnyH_done (by kernel_rfl) ?_ _
              clear hHeld KQ
              go_wp2
              go_ret
              exact ⟨rfl, grow_trans BU.out B8.out⟩
            · have hb' : ((ss.getD j s0).key == ((K : Nat) : Int)) = false := by simpa using hkk
              have HN1 : Hid (∀ j', j' < j + 1 → ¬ (ss.getD j' s0).key = (K : Nat)) := fun j' h => by
                by_cases e : j' = j
                · rw [e]; exact hkk
                · exact hno.out j' (by omega)
              generalize (ss.getD j s0).key = kj at *
              clear hkk hno m0
              go_wp2
              go_round
              case rel => exact ⟨j + 1, by omega, by go_num, HN1⟩
              case measure => simp [intOf]; omega
          · obtain ⟨j0, h0, h1⟩ := HEX.out
            exact absurd h1 (hno.out j0 (by omega))

theorem auditFrom_walk (n k : Int) (w : World) (hs : IsInts w sa s) (hl : IsTxs w la l) (hlc : l.length ≤ lc) (hk : (Lit.int .i64 k).wf = true) :
    Calls Try.prog 4 #[.slice sa s.length sc, .slice la l.length lc, .int .i64 n, .int .i64 k] w fun e w' => e = .returned (.bool true) ∧ Below w.heap.size w w' := by
  by_cases hE : rdE s l n = 0
  · obtain ⟨_, N, rfl, hN⟩ := rdE_zero hE
    exact auditFrom_ok sa la sc lc s l N k w hs hl hlc hk hE hN
  · exact auditFrom_bad sa la sc lc s l n k w hs hl hlc hE
end Go.Proofs.Ytcgpkonfneofdaa
