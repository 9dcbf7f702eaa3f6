/-
  Audit: the document's Reads.
  Conditions: those that each theorem states.
-/
import Derived.Test.YtcgpkonfneofdaaAudF
import Derived.Test.YtcgpkonfneofdaaAudC
import Derived.WalkKit
import Derived.WalkSpells
import Derived.WalkLawsBesides
import Derived.Defers
import Derived.Recover
import Derived.ProofKit
import Derived.Deep.RegionHeld
import Derived.Deep.RegionHeld3
import Derived.Deep.RegionLaw
import Derived.Deep.DeepCutAuto
import Derived.Deep.QuietTactic
import Derived.BigQuiet
import Derived.Maps.AppendAt
import Derived.Lib.SliceRun
import Derived.Deep.AppendLies
namespace Go.Proofs.Ytcgpkonfneofdaa
open Go.RowKit Go.Maps

variable (sa la : Option Addr) (sc lc : Nat) (s : List Int) (l : List TxA)

set_option maxRecDepth 100000 in
set_option maxHeartbeats 2000000 in
theorem docRd_ser (n : Int) (w : World) (hs : IsInts w sa s) (hl : IsTxs w la l) (hE : ¬ serE s l = 0) :
    Calls Try.prog 10 #[.slice sa s.length sc, .slice la l.length lc, .int .i64 n] w fun e w' => e = .returned (.tuple #[.slice none 0 0, .int .i64 (serE s l)]) ∧ Below w.heap.size w w' := by
  have CS : Hid (Calls Try.prog 35 #[.slice sa s.length sc, .slice la l.length lc] w fun e w' => ∃ wa wc xa xc, e = .returned (.tuple #[.slice wa (sEnd s l).length wc, .slice xa (sRes s l).length xc, .int .i64 (serE s l)]) ∧ IsInts w' wa (sEnd s l) ∧ IsRes w' xa (sRes s l) ∧ (sRes s l).length ≤ xc ∧ Below w.heap.size w w') := serialOf_any sa la sc lc s l w hs hl
  have hb : (serE s l != 0) = true := by simpa using hE
  clear hs hl
  generalize serE s l = E at *
  go_enter Try.func10, Try.ntmps10
  go_wp2_with fail
  refine CS.out.mono ?_
  rintro e w1 ⟨wa, wc, xa, xc, rfl, _, _, _, hb1⟩
  have B1 : Hid (Below w.heap.size w w1) := hb1
  clear hb1
  go_wp2
  go_ret2
  exact ⟨rfl, B1.out⟩

set_option maxRecDepth 100000 in
set_option maxHeartbeats 2000000 in
theorem docRd_none (n : Int) (w : World) (hs : IsInts w sa s) (hl : IsTxs w la l) (hE : serE s l = 0) (hn : ¬ noneE n l.length = 0) :
    Calls Try.prog 10 #[.slice sa s.length sc, .slice la l.length lc, .int .i64 n] w fun e w' => e = .returned (.tuple #[.slice none 0 0, .int .i64 5]) ∧ Below w.heap.size w w' := by
  have CS : Hid (Calls Try.prog 35 #[.slice sa s.length sc, .slice la l.length lc] w fun e w' => ∃ wa wc xa xc, e = .returned (.tuple #[.slice wa (sEnd s l).length wc, .slice xa (sRes s l).length xc, .int .i64 (serE s l)]) ∧ IsInts w' wa (sEnd s l) ∧ IsRes w' xa (sRes s l) ∧ (sRes s l).length ≤ xc ∧ Below w.heap.size w w') := serialOf_any sa la sc lc s l w hs hl
  have hl8 : l.length ≤ 8 := chkL_len (serE_zero hE).2
  have CW : Hid (∀ w', Calls Try.prog 38 #[.int .i64 n, .int .i64 0, .int .i64 ((l.length : Int) - 1)] w' fun e w'' => e = .returned (.bool false) ∧ w'' = w') := fun w' => by
    have h := within_any n 0 ((l.length : Int) - 1) w'
    have e : (decide ((0 : Int) ≤ n) && decide (n ≤ (l.length : Int) - 1)) = false := by
      unfold noneE at hn
      by_cases c : n < 0 ∨ (l.length : Int) ≤ n
      · rcases c with c | c
        · rw [decide_eq_false (by omega)]; rfl
        · rw [decide_eq_false (p := n ≤ (l.length : Int) - 1) (by omega), Bool.and_false]
      · rw [if_neg c] at hn; exact absurd rfl hn
    rw [e] at h
    exact h
  rw [hE] at CS
  clear hs hl hE hn
  go_enter Try.func10, Try.ntmps10
  go_wp2_with fail
  refine CS.out.mono ?_
  rintro e w1 ⟨wa, wc, xa, xc, rfl, _, _, _, hb1⟩
  have B1 : Hid (Below w.heap.size w w1) := hb1
  clear hb1
  go_wp2_with fail
  refine (CW.out _).mono ?_
  rintro e w2 ⟨rfl, hwe⟩
  subst hwe
  go_wp2
  go_ret2
  exact ⟨rfl, B1.out⟩

set_option maxRecDepth 100000 in
set_option maxHeartbeats 4000000 in
theorem docRd_ok (N : Nat) (w : World) (hs : IsInts w sa s) (hl : IsTxs w la l) (hN : N < l.length) (hE : serE s l = 0) :
    Calls Try.prog 10 #[.slice sa s.length sc, .slice la l.length lc, .int .i64 (N : Nat)] w fun e w' => ∃ a c, e = .returned (.tuple #[.slice a (rdL s l N).length c, .int .i64 0]) ∧ IsInts w' a (rdL s l N) ∧ Below w.heap.size w w' := by
  obtain ⟨i0, hi, hz0, hz1, hz2⟩ := info_parts Try.info3
  have CS : Hid (Calls Try.prog 35 #[.slice sa s.length sc, .slice la l.length lc] w fun e w' => ∃ wa wc xa xc, e = .returned (.tuple #[.slice wa (sEnd s l).length wc, .slice xa (sRes s l).length xc, .int .i64 (serE s l)]) ∧ IsInts w' wa (sEnd s l) ∧ IsRes w' xa (sRes s l) ∧ (sRes s l).length ≤ xc ∧ Below w.heap.size w w') := serialOf_any sa la sc lc s l w hs hl
  have hc := (serE_zero hE).2
  have hl8 : l.length ≤ 8 := chkL_len hc
  have e1 : sRes s l = serRes s l := if_pos hE
  have hRl : (sRes s l).length = l.length := by rw [e1, serRes_len]
  have HRL : Hid ((sRes s l).length = l.length) := hRl
  have CW0 : Hid (∀ w', Calls Try.prog 38 #[.int .i64 (N : Nat), .int .i64 0, .int .i64 ((l.length : Int) - 1)] w' fun e w'' => e = .returned (.bool true) ∧ w'' = w') := fun w' => by
    have h := within_any (N : Nat) 0 ((l.length : Int) - 1) w'
    have e : (decide ((0 : Int) ≤ ((N : Nat) : Int)) && decide (((N : Nat) : Int) ≤ (l.length : Int) - 1)) = true := by
      rw [decide_eq_true (by omega), decide_eq_true (by omega)]; rfl
    rw [e] at h
    exact h
  obtain ⟨b, off, ela, hbb, c0, c1, c2, hx⟩ := hl N hN
  have HL : Hid (IsTxs w la l) := hl
  have HRS : Hid (IsInts w (l.getD N x0).ra (l.getD N x0).rs) := hx.t.r
  obtain ⟨r4, _⟩ := right_reads hc N hN
  rw [hE] at CS
  have HD : Hid (rdL s l N = (l.getD N x0).rs.map (fun key => lB (sRes s l) l key N)) := rfl
  have HLN : Hid ((rdL s l N).length = (l.getD N x0).rs.length) := by show _ = _; rw [HD.out, List.length_map]
  have HST : Hid (∀ k, k < (l.getD N x0).rs.length → (rdL s l N).take (k + 1) = (rdL s l N).take k ++ [lB (sRes s l) l ((l.getD N x0).rs.getD k 0) N]) := fun k hk => by
    have e : (rdL s l N)[k]? = some (lB (sRes s l) l ((l.getD N x0).rs.getD k 0) N) := by
      rw [HD.out]
      generalize (l.getD N x0).rs = q at hk
      simp [List.getD, hk]
    rw [List.take_add_one, e]
    rfl
  generalize rdL s l N = RL at *
  clear hs hl hE hc hRl e1 hx c1 c2 HD
  subst ela
  change w.cell? ⟨b, off + N * 3, none⟩ = some (.slice (l.getD N x0).ra (l.getD N x0).rs.length (l.getD N x0).rc) at c0
  generalize hX : l.getD N x0 = X at *
  obtain ⟨ra, ga, ta, rc, gc, tc, rs, gs, ss⟩ := X
  simp only at c0 r4 HRS HLN HST
  rw [HLN.out]
  clear hX
  have j2 : (N : Int) < (l.length : Int) := by omega
  go_enter Try.func10, Try.ntmps10
  go_wp2_with fail
  refine CS.out.mono ?_
  rintro e w1 ⟨wa, wc, xa, xc, rfl, _, hx1, _, hb1⟩
  have B1 : Hid (Below w.heap.size w w1) := hb1
  have HX1 : Hid (IsRes w1 xa (sRes s l)) := hx1
  have C0 : Hid (w1.cell? ⟨b, off + N * 3, none⟩ = some (.slice ra rs.length rc)) := ext_cell hb1 c0
  clear hb1 hx1 CS c0
  go_wp2_with fail
  refine (CW0.out _).mono ?_
  rintro e w2 ⟨rfl, hwe⟩
  subst hwe
  go_wp2
  go_loopw [11, 12] (fun v q wr => ∃ k : Nat, k ≤ rs.length ∧ q = .int .i64 k ∧ Hid (wr.ownsRow w2.heap.size 3 1 v k ((RL.take k).map (Value.int .i64))) ∧ Hid (Below w2.heap.size w2 wr)) (fun _ q _ => rs.length - (intOf q).toNat)
  case atStart => exact ⟨0, Nat.zero_le _, rfl, World.ownsRow_nil _ _ _ _, Below.refl _ _⟩
  case round =>
    obtain ⟨k, hk, rfl, hrow, hB⟩ := hrel
    have c0 := ext_cell hB.out C0.out
    by_cases hlt : k < rs.length
    · have i1 : (k : Int) < (rs.length : Int) := by omega
      have HS1 := HST.out k hlt
      obtain ⟨rb, ro, era, hrb, d⟩ := HRS.out k hlt
      have era' : ra = some ⟨rb, ro, none⟩ := era
      subst era'
      have DK : Hid (∀ w', Below w2.heap.size w2 w' → w'.cell? ⟨b, off + N * 3, none⟩ = some (.slice (some ⟨rb, ro, none⟩) rs.length rc) ∧ w'.cell? ⟨rb, ro + k, none⟩ = some (.int .i64 (rs.getD k 0))) := fun w' hb => ⟨ext_cell hb C0.out, ext_cell (grow_trans B1.out hb) d⟩
      have HS2 : Hid (RL.take (k + 1) = RL.take k ++ [lB (sRes s l) l (rs.getD k 0) N]) := HS1
      have HUB : Hid (∀ j, u11.ownBlock = some j → w2.heap.size ≤ j ∧ j < wr.heap.size) := fun j hj => hrow.out.lt j hj
      clear d HS1 era
      generalize rs.getD k 0 = key at *
      go_wp2
      clear c0
      go_loopw [13, 14] (fun y q wq => ∃ i : Nat, i ≤ N ∧ q = .int .i64 i ∧ y = .int .i64 (lB (sRes s l) l key i) ∧ Hid (Below wr.heap.size wr wq)) (fun _ q _ => N - (intOf q).toNat)
      case atStart => exact ⟨0, Nat.zero_le _, rfl, rfl, Below.refl _ _⟩
      case round =>
        obtain ⟨i, hi', rfl, rfl, hBq⟩ := hrel
        have hB2 : Hid (Below w2.heap.size w2 wr) := grow_trans hB.out hBq.out
        by_cases hlti : i < N
        · have i2 : (i : Int) < (N : Int) := by omega
          have i3 : (i : Int) < (l.length : Int) := by omega
          have i4 : (i : Int) < ((sRes s l).length : Int) := by rw [HRL.out]; omega
          obtain ⟨xb, xo, va, vc, exa, _, x0', _, _⟩ := HX1.out i (by rw [HRL.out]; omega)
          subst exa
          have x0' := ext_cell hB2.out x0'
          obtain ⟨b', off', elb, _, l0, l1, l2, hx2⟩ := HL.out i (by omega)
          have elb1 : b = b' := by injection elb with e; injection e
          have elb2 : off = off' := by injection elb with e; injection e
          clear elb
          subst elb1 elb2
          cases hdn : ((sRes s l).getD i (false, [])).1 with
          | false =>
            have hdone : Hid (((sRes s l).getD i (false, [])).1 = false) := hdn
            rw [hdn] at x0'
            have KS : Hid (∀ w', Below wr.heap.size wr w' → w'.cell? ⟨xb, xo + i * 2, none⟩ = some (.bool false)) := fun w' hb => ext_cell hb x0'
            clear l0 l1 l2 hx2 x0' hdn
            go_upto_region 14 with fail
            refine wp_region_held_drew (S := (fun w' => w'.cell? ⟨xb, xo + i * 2, none⟩ = some (.bool false))) (by kernel_rfl) ?_ (fun hHeld => ?_)
            · exact KS.out _ (grow_drew (Below.refl _ _))
            refine wpAnyH_take (i := 0) (oi := { dst := some 46, op := .move (.tmp 9), type := 24, pos := "steps.go:278", after := #[], guard := none }) (v := ?_) rfl (by kernel_rfl) (by kernel_rfl) (by kernel_rfl) (fun _ _ _ h => h) (Or.inl ⟨by rfl, ?_⟩) (by assumption) ?_
            rotate_left
            · intro w hSw
              go_simp
              first | done | with_reducible rfl
            try simp only [Act.put, List.setIfInBounds_toArray, List.set_cons_zero, List.set_cons_succ]
            refine wpAnyH_take (i := 1) (oi := { dst := some 47, op := .move (.tmp 14), type := 3, pos := "steps.go:278", after := #[], guard := none }) (v := ?_) rfl (by kernel_rfl) (by kernel_rfl) (by kernel_rfl) (fun _ _ _ h => h) (Or.inl ⟨by rfl, ?_⟩) (by assumption) ?_
            rotate_left
            · intro w hSw
              go_simp
              first | done | with_reducible rfl
            try simp only [Act.put, List.setIfInBounds_toArray, List.set_cons_zero, List.set_cons_succ]
            refine wpAnyH_take (i := 2) (oi := { dst := some 48, op := .indexAddr 24 (.tmp 46) (.tmp 47), type := 0, pos := "steps.go:278", after := #[{ on := 0, ground := .data }, { on := 1, ground := .data }], guard := none }) (v := ?_) rfl (by kernel_rfl) (by kernel_rfl) (by kernel_rfl) (fun _ _ _ h => h) (Or.inl ⟨by rfl, ?_⟩) (by assumption) ?_
            rotate_left
            · intro w hSw
              go_simp
              first | done | with_reducible rfl
            try simp only [Act.put, List.setIfInBounds_toArray, List.set_cons_zero, List.set_cons_succ]
            refine wpAnyH_take (i := 3) (oi := { dst := some 49, op := .fieldAddr 40 (.tmp 48) 0, type := 0, pos := "steps.go:278", after := #[{ on := 2, ground := .data }], guard := none }) (v := ?_) rfl (by kernel_rfl) (by kernel_rfl) (by kernel_rfl) (fun _ _ _ h => h) (Or.inl ⟨by rfl, ?_⟩) (by assumption) ?_
            rotate_left
            · intro w hSw
              go_simp
              first | done | with_reducible rfl
            try simp only [Act.put, List.setIfInBounds_toArray, List.set_cons_zero, List.set_cons_succ]
            refine wpAnyH_take (i := 4) (oi := { dst := some 50, op := .load 4 (.tmp 49), type := 4, pos := "steps.go:278", after := #[{ on := 3, ground := .data }], guard := none }) (v := ?_) rfl (by kernel_rfl) (by kernel_rfl) (by kernel_rfl) (fun _ _ _ h => h) (Or.inl ⟨by rfl, ?_⟩) (by assumption) ?_
            rotate_left
            · intro w hSw
              go_simp
              first | done | with_reducible rfl
            try simp only [Act.put, List.setIfInBounds_toArray, List.set_cons_zero, List.set_cons_succ]
            refine wpAnyH_take (i := 5) (oi := { dst := some 51, op := .move (.tmp 50), type := 4, pos := "steps.go:278", after := #[{ on := 4, ground := .data }], guard := none }) (v := ?_) rfl (by kernel_rfl) (by kernel_rfl) (by kernel_rfl) (fun _ _ _ h => h) (Or.inl ⟨by rfl, ?_⟩) (by assumption) ?_
            rotate_left
            · intro w hSw
              go_simp
              first | done | with_reducible rfl
            try simp only [Act.put, List.setIfInBounds_toArray, List.set_cons_zero, List.set_cons_succ]
            refine wpAnyH_take (i := 6) (oi := { dst := some 52, op := .move (.tmp 1), type := 23, pos := "steps.go:278", after := #[{ on := 5, ground := .guard }], guard := some (5, true) }) (v := undef) rfl (by kernel_rfl) (by kernel_rfl) (by kernel_rfl) (fun _ _ _ h => h) (Or.inr ⟨by rfl, rfl⟩) (by assumption) ?_
            try simp only [Act.put, List.setIfInBounds_toArray, List.set_cons_zero, List.set_cons_succ]
            refine wpAnyH_take (i := 7) (oi := { dst := some 53, op := .move (.tmp 14), type := 3, pos := "steps.go:278", after := #[{ on := 5, ground := .guard }], guard := some (5, true) }) (v := undef) rfl (by kernel_rfl) (by kernel_rfl) (by kernel_rfl) (fun _ _ _ h => h) (Or.inr ⟨by rfl, rfl⟩) (by assumption) ?_
            try simp only [Act.put, List.setIfInBounds_toArray, List.set_cons_zero, List.set_cons_succ]
            refine wpAnyH_take (i := 8) (oi := { dst := some 54, op := .indexAddr 23 (.tmp 52) (.tmp 53), type := 0, pos := "steps.go:278", after := #[{ on := 6, ground := .data }, { on := 7, ground := .data }, { on := 5, ground := .guard }], guard := some (5, true) }) (v := undef) rfl (by kernel_rfl) (by kernel_rfl) (by kernel_rfl) (fun _ _ _ h => h) (Or.inr ⟨by rfl, rfl⟩) (by assumption) ?_
            try simp only [Act.put, List.setIfInBounds_toArray, List.set_cons_zero, List.set_cons_succ]
            refine wpAnyH_take (i := 9) (oi := { dst := some 55, op := .load 38 (.tmp 54), type := 38, pos := "steps.go:278", after := #[{ on := 8, ground := .data }, { on := 5, ground := .guard }], guard := some (5, true) }) (v := undef) rfl (by kernel_rfl) (by kernel_rfl) (by kernel_rfl) (fun _ _ _ h => h) (Or.inr ⟨by rfl, rfl⟩) (by assumption) ?_
            try simp only [Act.put, List.setIfInBounds_toArray, List.set_cons_zero, List.set_cons_succ]
            refine wpAnyH_take (i := 10) (oi := { dst := some 56, op := .move (.tmp 1), type := 23, pos := "steps.go:278", after := #[{ on := 5, ground := .guard }], guard := some (5, true) }) (v := undef) rfl (by kernel_rfl) (by kernel_rfl) (by kernel_rfl) (fun _ _ _ h => h) (Or.inr ⟨by rfl, rfl⟩) (by assumption) ?_
            try simp only [Act.put, List.setIfInBounds_toArray, List.set_cons_zero, List.set_cons_succ]
            refine wpAnyH_take (i := 11) (oi := { dst := some 57, op := .move (.tmp 2), type := 3, pos := "steps.go:278", after := #[{ on := 5, ground := .guard }], guard := some (5, true) }) (v := undef) rfl (by kernel_rfl) (by kernel_rfl) (by kernel_rfl) (fun _ _ _ h => h) (Or.inr ⟨by rfl, rfl⟩) (by assumption) ?_
            try simp only [Act.put, List.setIfInBounds_toArray, List.set_cons_zero, List.set_cons_succ]
            refine wpAnyH_take (i := 12) (oi := { dst := some 58, op := .indexAddr 23 (.tmp 56) (.tmp 57), type := 0, pos := "steps.go:278", after := #[{ on := 10, ground := .data }, { on := 11, ground := .data }, { on := 5, ground := .guard }], guard := some (5, true) }) (v := undef) rfl (by kernel_rfl) (by kernel_rfl) (by kernel_rfl) (fun _ _ _ h => h) (Or.inr ⟨by rfl, rfl⟩) (by assumption) ?_
            try simp only [Act.put, List.setIfInBounds_toArray, List.set_cons_zero, List.set_cons_succ]
            refine wpAnyH_take (i := 13) (oi := { dst := some 59, op := .fieldAddr 38 (.tmp 58) 0, type := 0, pos := "steps.go:278", after := #[{ on := 12, ground := .data }, { on := 5, ground := .guard }], guard := some (5, true) }) (v := undef) rfl (by kernel_rfl) (by kernel_rfl) (by kernel_rfl) (fun _ _ _ h => h) (Or.inr ⟨by rfl, rfl⟩) (by assumption) ?_
            try simp only [Act.put, List.setIfInBounds_toArray, List.set_cons_zero, List.set_cons_succ]
            refine wpAnyH_take (i := 14) (oi := { dst := some 60, op := .load 22 (.tmp 59), type := 22, pos := "steps.go:278", after := #[{ on := 13, ground := .data }, { on := 5, ground := .guard }], guard := some (5, true) }) (v := undef) rfl (by kernel_rfl) (by kernel_rfl) (by kernel_rfl) (fun _ _ _ h => h) (Or.inr ⟨by rfl, rfl⟩) (by assumption) ?_
            try simp only [Act.put, List.setIfInBounds_toArray, List.set_cons_zero, List.set_cons_succ]
            refine wpAnyH_take (i := 15) (oi := { dst := some 61, op := .move (.tmp 12), type := 3, pos := "steps.go:278", after := #[{ on := 5, ground := .guard }], guard := some (5, true) }) (v := undef) rfl (by kernel_rfl) (by kernel_rfl) (by kernel_rfl) (fun _ _ _ h => h) (Or.inr ⟨by rfl, rfl⟩) (by assumption) ?_
            try simp only [Act.put, List.setIfInBounds_toArray, List.set_cons_zero, List.set_cons_succ]
            refine wpAnyH_take (i := 16) (oi := { dst := some 62, op := .indexAddr 22 (.tmp 60) (.tmp 61), type := 0, pos := "steps.go:278", after := #[{ on := 14, ground := .data }, { on := 15, ground := .data }, { on := 5, ground := .guard }], guard := some (5, true) }) (v := undef) rfl (by kernel_rfl) (by kernel_rfl) (by kernel_rfl) (fun _ _ _ h => h) (Or.inr ⟨by rfl, rfl⟩) (by assumption) ?_
            try simp only [Act.put, List.setIfInBounds_toArray, List.set_cons_zero, List.set_cons_succ]
            refine wpAnyH_take (i := 17) (oi := { dst := some 63, op := .load 3 (.tmp 62), type := 3, pos := "steps.go:278", after := #[{ on := 16, ground := .data }, { on := 5, ground := .guard }], guard := some (5, true) }) (v := undef) rfl (by kernel_rfl) (by kernel_rfl) (by kernel_rfl) (fun _ _ _ h => h) (Or.inr ⟨by rfl, rfl⟩) (by assumption) ?_
            try simp only [Act.put, List.setIfInBounds_toArray, List.set_cons_zero, List.set_cons_succ]
            refine wpAnyH_take (i := 18) (oi := { dst := some 64, op := .call { callee := .value (.func 39), args := #[.tmp 55, .tmp 63], argTypes := #[38, 3] }, type := 4, pos := "steps.go:278", after := #[{ on := 9, ground := .data }, { on := 17, ground := .data }, { on := 5, ground := .chain }, { on := 5, ground := .guard }], guard := some (5, true) }) (v := undef) rfl (by kernel_rfl) (by kernel_rfl) (by kernel_rfl) (fun _ _ _ h => h) (Or.inr ⟨by rfl, rfl⟩) (by assumption) ?_
            try simp only [Act.put, List.setIfInBounds_toArray, List.set_cons_zero, List.set_cons_succ]
            refine wpAnyH_take (i := 19) (oi := { dst := some 65, op := .pick (.tmp 51) (.tmp 64) (.const (.bool false)), type := 4, pos := "steps.go:278", after := #[{ on := 5, ground := .data }, { on := 18, ground := .data }], guard := none }) (v := ?_) rfl (by kernel_rfl) (by kernel_rfl) (by kernel_rfl) (fun _ _ _ h => h) (Or.inl ⟨by rfl, ?_⟩) (by assumption) ?_
            rotate_left
            · intro w hSw
              go_simp
              first | done | with_reducible rfl
            try simp only [Act.put, List.setIfInBounds_toArray, List.set_cons_zero, List.set_cons_succ]
            refine wpAnyH_done (by kernel_rfl) ?_ _
            clear hHeld KS
            have HN1 : Hid (lB (sRes s l) l key (i + 1) = lB (sRes s l) l key i) := lB_off _ _ _ _ hdone.out
            go_wp2
            go_roundw
            case rel => exact ⟨i + 1, by omega, by go_num, by rw [HN1.out], grow_drew hBq.out⟩
            case measure => simp [intOf]; omega
          | true =>
            have hdone : Hid (((sRes s l).getD i (false, [])).1 = true) := hdn
            rw [hdn] at x0'
            have l0 := ext_cell (grow_trans B1.out hB2.out) l0
            have l1 := ext_cell (grow_trans B1.out hB2.out) l1
            have l2 := ext_cell (grow_trans B1.out hB2.out) l2
            have HT2 : Hid (IsX wr (l.getD i x0)) := hx2.below (grow_trans B1.out hB2.out)
            obtain ⟨q0, HQ0⟩ : ∃ q0 : Bool, Hid (decide (key ∈ keysOf (l.getD i x0).ss) = q0) := ⟨_, rfl⟩
            obtain ⟨dk0, dk1⟩ := DK.out wr hB2.out
            clear hx2 hdn
            generalize hX2 : l.getD i x0 = X2 at l0 l1 l2 HT2
            obtain ⟨ra2, ga2, ta2, rc2, gc2, tc2, rs2, gs2, ss2⟩ := X2
            simp only at l0 l1 l2
            have CW : Hid (∀ w', Below wr.heap.size wr w' → Calls Try.prog 39 #[.agg #[.slice ra2 rs2.length rc2, .slice ga2 gs2.length gc2, .slice ta2 ss2.length tc2], .int .i64 key] w' fun e w'' => e = .returned (.bool q0) ∧ Below w'.heap.size w' w'') := fun w' hb => by
              have h := writes_any ra2 ga2 ta2 rc2 gc2 tc2 rs2 gs2 ss2 key w' (HT2.out.t.below hb)
              have e : decide (key ∈ keysOf ss2) = q0 := by rw [← HQ0.out, hX2]
              rw [e] at h
              exact h.mono (by rintro e w'' ⟨rfl, rfl⟩; exact ⟨rfl, grow_alloc (Below.refl _ _) _⟩)
            have KS : Hid (∀ w', Below wr.heap.size wr w' → w'.cell? ⟨xb, xo + i * 2, none⟩ = some (.bool true) ∧ w'.cell? ⟨b, off + i * 3, none⟩ = some (.slice ra2 rs2.length rc2) ∧ w'.cell? ⟨b, off + i * 3 + 1, none⟩ = some (.slice ga2 gs2.length gc2) ∧ w'.cell? ⟨b, off + i * 3 + 2, none⟩ = some (.slice ta2 ss2.length tc2) ∧ w'.cell? ⟨b, off + N * 3, none⟩ = some (.slice (some ⟨rb, ro, none⟩) rs.length rc) ∧ w'.cell? ⟨rb, ro + k, none⟩ = some (.int .i64 key)) := fun w' hb => ⟨ext_cell hb x0', ext_cell hb l0, ext_cell hb l1, ext_cell hb l2, ext_cell hb dk0, ext_cell hb dk1⟩
            clear l0 l1 l2 x0' dk0 dk1 HT2 hX2
            go_upto_region 14 with fail
            refine wp_region_held_drew (S := (fun w' => w'.cell? ⟨xb, xo + i * 2, none⟩ = some (.bool true) ∧ w'.cell? ⟨b, off + i * 3, none⟩ = some (.slice ra2 rs2.length rc2) ∧ w'.cell? ⟨b, off + i * 3 + 1, none⟩ = some (.slice ga2 gs2.length gc2) ∧ w'.cell? ⟨b, off + i * 3 + 2, none⟩ = some (.slice ta2 ss2.length tc2) ∧ w'.cell? ⟨b, off + N * 3, none⟩ = some (.slice (some ⟨rb, ro, none⟩) rs.length rc) ∧ w'.cell? ⟨rb, ro + k, none⟩ = some (.int .i64 key))) (by kernel_rfl) ?_ (fun hHeld => ?_)
            · exact KS.out _ (grow_drew (Below.refl _ _))
            refine wpAnyH_take (i := 0) (oi := { dst := some 46, op := .move (.tmp 9), type := 24, pos := "steps.go:278", after := #[], guard := none }) (v := ?_) rfl (by kernel_rfl) (by kernel_rfl) (by kernel_rfl) (fun _ _ _ h => h) (Or.inl ⟨by rfl, ?_⟩) (by assumption) ?_
            rotate_left
            · intro w hSw
              go_simp
              first | done | with_reducible rfl
            try simp only [Act.put, List.setIfInBounds_toArray, List.set_cons_zero, List.set_cons_succ]
            refine wpAnyH_take (i := 1) (oi := { dst := some 47, op := .move (.tmp 14), type := 3, pos := "steps.go:278", after := #[], guard := none }) (v := ?_) rfl (by kernel_rfl) (by kernel_rfl) (by kernel_rfl) (fun _ _ _ h => h) (Or.inl ⟨by rfl, ?_⟩) (by assumption) ?_
            rotate_left
            · intro w hSw
              go_simp
              first | done | with_reducible rfl
            try simp only [Act.put, List.setIfInBounds_toArray, List.set_cons_zero, List.set_cons_succ]
            refine wpAnyH_take (i := 2) (oi := { dst := some 48, op := .indexAddr 24 (.tmp 46) (.tmp 47), type := 0, pos := "steps.go:278", after := #[{ on := 0, ground := .data }, { on := 1, ground := .data }], guard := none }) (v := ?_) rfl (by kernel_rfl) (by kernel_rfl) (by kernel_rfl) (fun _ _ _ h => h) (Or.inl ⟨by rfl, ?_⟩) (by assumption) ?_
            rotate_left
            · intro w hSw
              go_simp
              first | done | with_reducible rfl
            try simp only [Act.put, List.setIfInBounds_toArray, List.set_cons_zero, List.set_cons_succ]
            refine wpAnyH_take (i := 3) (oi := { dst := some 49, op := .fieldAddr 40 (.tmp 48) 0, type := 0, pos := "steps.go:278", after := #[{ on := 2, ground := .data }], guard := none }) (v := ?_) rfl (by kernel_rfl) (by kernel_rfl) (by kernel_rfl) (fun _ _ _ h => h) (Or.inl ⟨by rfl, ?_⟩) (by assumption) ?_
            rotate_left
            · intro w hSw
              go_simp
              first | done | with_reducible rfl
            try simp only [Act.put, List.setIfInBounds_toArray, List.set_cons_zero, List.set_cons_succ]
            refine wpAnyH_take (i := 4) (oi := { dst := some 50, op := .load 4 (.tmp 49), type := 4, pos := "steps.go:278", after := #[{ on := 3, ground := .data }], guard := none }) (v := ?_) rfl (by kernel_rfl) (by kernel_rfl) (by kernel_rfl) (fun _ _ _ h => h) (Or.inl ⟨by rfl, ?_⟩) (by assumption) ?_
            rotate_left
            · intro w hSw
              go_simp
              first | done | with_reducible rfl
            try simp only [Act.put, List.setIfInBounds_toArray, List.set_cons_zero, List.set_cons_succ]
            refine wpAnyH_take (i := 5) (oi := { dst := some 51, op := .move (.tmp 50), type := 4, pos := "steps.go:278", after := #[{ on := 4, ground := .data }], guard := none }) (v := ?_) rfl (by kernel_rfl) (by kernel_rfl) (by kernel_rfl) (fun _ _ _ h => h) (Or.inl ⟨by rfl, ?_⟩) (by assumption) ?_
            rotate_left
            · intro w hSw
              go_simp
              first | done | with_reducible rfl
            try simp only [Act.put, List.setIfInBounds_toArray, List.set_cons_zero, List.set_cons_succ]
            refine wpAnyH_take (i := 6) (oi := { dst := some 52, op := .move (.tmp 1), type := 23, pos := "steps.go:278", after := #[{ on := 5, ground := .guard }], guard := some (5, true) }) (v := ?_) rfl (by kernel_rfl) (by kernel_rfl) (by kernel_rfl) (fun _ _ _ h => h) (Or.inl ⟨by rfl, ?_⟩) (by assumption) ?_
            rotate_left
            · intro w hSw
              go_simp
              first | done | with_reducible rfl
            try simp only [Act.put, List.setIfInBounds_toArray, List.set_cons_zero, List.set_cons_succ]
            refine wpAnyH_take (i := 7) (oi := { dst := some 53, op := .move (.tmp 14), type := 3, pos := "steps.go:278", after := #[{ on := 5, ground := .guard }], guard := some (5, true) }) (v := ?_) rfl (by kernel_rfl) (by kernel_rfl) (by kernel_rfl) (fun _ _ _ h => h) (Or.inl ⟨by rfl, ?_⟩) (by assumption) ?_
            rotate_left
            · intro w hSw
              go_simp
              first | done | with_reducible rfl
            try simp only [Act.put, List.setIfInBounds_toArray, List.set_cons_zero, List.set_cons_succ]
            refine wpAnyH_take (i := 8) (oi := { dst := some 54, op := .indexAddr 23 (.tmp 52) (.tmp 53), type := 0, pos := "steps.go:278", after := #[{ on := 6, ground := .data }, { on := 7, ground := .data }, { on := 5, ground := .guard }], guard := some (5, true) }) (v := ?_) rfl (by kernel_rfl) (by kernel_rfl) (by kernel_rfl) (fun _ _ _ h => h) (Or.inl ⟨by rfl, ?_⟩) (by assumption) ?_
            rotate_left
            · intro w hSw
              go_simp
              first | done | with_reducible rfl
            try simp only [Act.put, List.setIfInBounds_toArray, List.set_cons_zero, List.set_cons_succ]
            refine wpAnyH_take (i := 9) (oi := { dst := some 55, op := .load 38 (.tmp 54), type := 38, pos := "steps.go:278", after := #[{ on := 8, ground := .data }, { on := 5, ground := .guard }], guard := some (5, true) }) (v := ?_) rfl (by kernel_rfl) (by kernel_rfl) (by kernel_rfl) (fun _ _ _ h => h) (Or.inl ⟨by rfl, ?_⟩) (by assumption) ?_
            rotate_left
            · intro w hSw
              go_simp
              first | done | with_reducible rfl
            try simp only [Act.put, List.setIfInBounds_toArray, List.set_cons_zero, List.set_cons_succ]
            refine wpAnyH_take (i := 10) (oi := { dst := some 56, op := .move (.tmp 1), type := 23, pos := "steps.go:278", after := #[{ on := 5, ground := .guard }], guard := some (5, true) }) (v := ?_) rfl (by kernel_rfl) (by kernel_rfl) (by kernel_rfl) (fun _ _ _ h => h) (Or.inl ⟨by rfl, ?_⟩) (by assumption) ?_
            rotate_left
            · intro w hSw
              go_simp
              first | done | with_reducible rfl
            try simp only [Act.put, List.setIfInBounds_toArray, List.set_cons_zero, List.set_cons_succ]
            refine wpAnyH_take (i := 11) (oi := { dst := some 57, op := .move (.tmp 2), type := 3, pos := "steps.go:278", after := #[{ on := 5, ground := .guard }], guard := some (5, true) }) (v := ?_) rfl (by kernel_rfl) (by kernel_rfl) (by kernel_rfl) (fun _ _ _ h => h) (Or.inl ⟨by rfl, ?_⟩) (by assumption) ?_
            rotate_left
            · intro w hSw
              go_simp
              first | done | with_reducible rfl
            try simp only [Act.put, List.setIfInBounds_toArray, List.set_cons_zero, List.set_cons_succ]
            refine wpAnyH_take (i := 12) (oi := { dst := some 58, op := .indexAddr 23 (.tmp 56) (.tmp 57), type := 0, pos := "steps.go:278", after := #[{ on := 10, ground := .data }, { on := 11, ground := .data }, { on := 5, ground := .guard }], guard := some (5, true) }) (v := ?_) rfl (by kernel_rfl) (by kernel_rfl) (by kernel_rfl) (fun _ _ _ h => h) (Or.inl ⟨by rfl, ?_⟩) (by assumption) ?_
            rotate_left
            · intro w hSw
              go_simp
              first | done | with_reducible rfl
            try simp only [Act.put, List.setIfInBounds_toArray, List.set_cons_zero, List.set_cons_succ]
            refine wpAnyH_take (i := 13) (oi := { dst := some 59, op := .fieldAddr 38 (.tmp 58) 0, type := 0, pos := "steps.go:278", after := #[{ on := 12, ground := .data }, { on := 5, ground := .guard }], guard := some (5, true) }) (v := ?_) rfl (by kernel_rfl) (by kernel_rfl) (by kernel_rfl) (fun _ _ _ h => h) (Or.inl ⟨by rfl, ?_⟩) (by assumption) ?_
            rotate_left
            · intro w hSw
              go_simp
              first | done | with_reducible rfl
            try simp only [Act.put, List.setIfInBounds_toArray, List.set_cons_zero, List.set_cons_succ]
            refine wpAnyH_take (i := 14) (oi := { dst := some 60, op := .load 22 (.tmp 59), type := 22, pos := "steps.go:278", after := #[{ on := 13, ground := .data }, { on := 5, ground := .guard }], guard := some (5, true) }) (v := ?_) rfl (by kernel_rfl) (by kernel_rfl) (by kernel_rfl) (fun _ _ _ h => h) (Or.inl ⟨by rfl, ?_⟩) (by assumption) ?_
            rotate_left
            · intro w hSw
              go_simp
              first | done | with_reducible rfl
            try simp only [Act.put, List.setIfInBounds_toArray, List.set_cons_zero, List.set_cons_succ]
            refine wpAnyH_take (i := 15) (oi := { dst := some 61, op := .move (.tmp 12), type := 3, pos := "steps.go:278", after := #[{ on := 5, ground := .guard }], guard := some (5, true) }) (v := ?_) rfl (by kernel_rfl) (by kernel_rfl) (by kernel_rfl) (fun _ _ _ h => h) (Or.inl ⟨by rfl, ?_⟩) (by assumption) ?_
            rotate_left
            · intro w hSw
              go_simp
              first | done | with_reducible rfl
            try simp only [Act.put, List.setIfInBounds_toArray, List.set_cons_zero, List.set_cons_succ]
            refine wpAnyH_take (i := 16) (oi := { dst := some 62, op := .indexAddr 22 (.tmp 60) (.tmp 61), type := 0, pos := "steps.go:278", after := #[{ on := 14, ground := .data }, { on := 15, ground := .data }, { on := 5, ground := .guard }], guard := some (5, true) }) (v := ?_) rfl (by kernel_rfl) (by kernel_rfl) (by kernel_rfl) (fun _ _ _ h => h) (Or.inl ⟨by rfl, ?_⟩) (by assumption) ?_
            rotate_left
            · intro w hSw
              go_simp
              first | done | with_reducible rfl
            try simp only [Act.put, List.setIfInBounds_toArray, List.set_cons_zero, List.set_cons_succ]
            refine wpAnyH_take (i := 17) (oi := { dst := some 63, op := .load 3 (.tmp 62), type := 3, pos := "steps.go:278", after := #[{ on := 16, ground := .data }, { on := 5, ground := .guard }], guard := some (5, true) }) (v := ?_) rfl (by kernel_rfl) (by kernel_rfl) (by kernel_rfl) (fun _ _ _ h => h) (Or.inl ⟨by rfl, ?_⟩) (by assumption) ?_
            rotate_left
            · intro w hSw
              go_simp
              first | done | with_reducible rfl
            try simp only [Act.put, List.setIfInBounds_toArray, List.set_cons_zero, List.set_cons_succ]
            refine wpAnyH_ready (rs := [18]) (by kernel_rfl) (by simp) ?_
            refine AllReadyH.cons (o := { dst := some 64, op := .call { callee := .value (.func 39), args := #[.tmp 55, .tmp 63], argTypes := #[38, 3] }, type := 4, pos := "steps.go:278", after := #[{ on := 9, ground := .data }, { on := 17, ground := .data }, { on := 5, ground := .chain }, { on := 5, ground := .guard }], guard := some (5, true) }) rfl (fun K hK => ?_) (AllReadyH.nil)
            go_simp
            go_wp2_with (go_at_call 39; refine (CW.out _ (grow_drew (Below.refl _ _))).mono ?_; rintro e w6 ⟨rfl, hb6⟩)
            have B6 : Hid (Below wr.heap.size wr w6) := grow_trans (grow_drew (Below.refl _ _)) hb6
            clear hHeld
            refine hK.out _ _ (KS.out _ B6.out) (fun hHeld => ?_)
            clear hK K
            refine wpAnyH_take (i := 19) (oi := { dst := some 65, op := .pick (.tmp 51) (.tmp 64) (.const (.bool false)), type := 4, pos := "steps.go:278", after := #[{ on := 5, ground := .data }, { on := 18, ground := .data }], guard := none }) (v := ?_) rfl (by kernel_rfl) (by kernel_rfl) (by kernel_rfl) (fun _ _ _ h => h) (Or.inl ⟨by rfl, ?_⟩) (by assumption) ?_
            rotate_left
            · intro w hSw
              go_simp
              first | done | with_reducible rfl
            try simp only [Act.put, List.setIfInBounds_toArray, List.set_cons_zero, List.set_cons_succ]
            refine wpAnyH_done (by kernel_rfl) ?_ _
            clear hHeld KS
            skip
            cases q0 with
            | true =>
              have HN1 : Hid (lB (sRes s l) l key (i + 1) = ((i : Nat) : Int)) := by
                show _ = _
                rw [lB, if_pos ⟨hdone.out, of_decide_eq_true HQ0.out⟩]
              go_wp2
              go_roundw
              case rel => exact ⟨i + 1, by omega, by go_num, by rw [HN1.out], grow_trans hBq.out B6.out⟩
              case measure => simp [intOf]; omega
            | false =>
              have HN1 : Hid (lB (sRes s l) l key (i + 1) = lB (sRes s l) l key i) := by
                show _ = _
                rw [lB, if_neg (fun h => of_decide_eq_false HQ0.out h.2)]
              go_wp2
              go_roundw
              case rel => exact ⟨i + 1, by omega, by go_num, by rw [HN1.out], grow_trans hBq.out B6.out⟩
              case measure => simp [intOf]; omega
        · have hii : i = N := by omega
          have i2 : ¬ (i : Int) < (N : Int) := by omega
          have hrow2 := owns_below hrow.out hBq.out
          have HS3 : Hid (RL.take (k + 1) = RL.take k ++ [lB (sRes s l) l key i]) := by show _ = _; rw [hii]; exact HS2.out
          have hsz := hB2.out.size
          clear hii hlti
          generalize lB (sRes s l) l key i = bv at *
          go_wp2_with (first
            | (at_builtin; refine wpList_append_own _ rfl _ _ 22 rfl w2.heap.size 3 i0 (.int .i64 0) 1 8 Try.underlying22 hi hz0 hz1 hz2 rfl (by decide) _ _ _ rfl (hrow2.alloc _) _ 1 1 [.int .i64 bv] rfl rfl (cell_one_new _ _ _) (ints_oneCell .i64 [bv]) (by unfold maxLen; omega) (by omega) (by simp; omega) ?_; intro v' w5 hown' hgrow _)
            | go_in)
          have n1 : Hid (w5.ownsRow w2.heap.size 3 1 v' (k + 1) ((RL.take (k + 1)).map (Value.int .i64))) := by
            show World.ownsRow _ _ _ _ _ _ _
            rw [HS3.out, List.map_append]
            exact hown'
          have n3 : Hid (Below w2.heap.size w2 w5) := (grow_alloc hB2.out _).grown hgrow (Nat.le_trans hB2.out.size (by simp)) (fun j e => (HUB.out j e).1)
          clear hgrow hown' hrow hrow2 hB hB2 hBq
          go_wp2
          go_roundw
          case rel => exact ⟨k + 1, by omega, by go_num, n1, n3⟩
          case measure => simp [intOf]; omega
    · have hkk : k = rs.length := by omega
      have i1 : ¬ (k : Int) < (rs.length : Int) := by omega
      have hr := hrow.out
      rw [hkk, List.take_of_length_le (by rw [HLN.out]; exact Nat.le_refl _)] at hr
      obtain ⟨a, c, hv, ha⟩ := at_of_owns hr
      rw [HLN.out] at hv
      subst hv
      have HA : Hid (IsInts wr a RL) := ha.ints (Nat.le_refl _)
      have BF : Hid (Below w.heap.size w wr) := grow_trans B1.out hB.out
      clear hkk hr ha hrow hlt
      go_wp2
      go_ret2
      exact ⟨a, ⟨c, rfl⟩, HA.out, BF.out⟩

theorem docRd_any (n : Int) (w : World) (hs : IsInts w sa s) (hl : IsTxs w la l) :
    Calls Try.prog 10 #[.slice sa s.length sc, .slice la l.length lc, .int .i64 n] w fun e w' => ∃ a c, e = .returned (.tuple #[.slice a (rdV s l n).length c, .int .i64 (rdE s l n)]) ∧ IsInts w' a (rdV s l n) ∧ Below w.heap.size w w' := by
  by_cases hE : rdE s l n = 0
  · obtain ⟨h1, N, rfl, hN⟩ := rdE_zero hE
    have e1 : rdV s l (N : Nat) = rdL s l N := if_pos hE
    rw [e1, hE]
    exact docRd_ok sa la sc lc s l N w hs hl hN h1
  · have e1 : rdV s l n = [] := if_neg hE
    rw [e1]
    by_cases h1 : serE s l = 0
    · have hn : ¬ noneE n l.length = 0 := fun h => hE (by unfold rdE; rw [h1, h]; rfl)
      have e2 : rdE s l n = 5 := by
        unfold rdE
        rw [h1]
        unfold noneE at hn ⊢
        by_cases c : n < 0 ∨ (l.length : Int) ≤ n
        · rw [if_pos c]; rfl
        · rw [if_neg c] at hn; exact absurd rfl hn
      rw [e2]
      refine (docRd_none sa la sc lc s l n w hs hl h1 hn).mono ?_
      rintro e w' ⟨rfl, hb⟩
      exact ⟨none, 0, rfl, fun i hi => absurd hi (by simp), hb⟩
    · have e2 : rdE s l n = serE s l := by unfold rdE; simp [firstNZ, h1]
      rw [e2]
      refine (docRd_ser sa la sc lc s l n w hs hl h1).mono ?_
      rintro e w' ⟨rfl, hb⟩
      exact ⟨none, 0, rfl, fun i hi => absurd hi (by simp), hb⟩
end Go.Proofs.Ytcgpkonfneofdaa
