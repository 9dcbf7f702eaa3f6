/-
  Audit: AuditTells walked.
  Conditions: those that each theorem states.
-/
import Derived.Test.YtcgpkonfneofdaaAudG
import Derived.Test.YtcgpkonfneofdaaAudH
import Derived.Test.YtcgpkonfneofdaaStoreC
import Derived.WalkKit
import Derived.WalkSpells
import Derived.WalkLawsBesides
import Derived.Defers
import Derived.Recover
import Derived.ProofKit
import Derived.Deep.RegionHeld
import Derived.Deep.RegionHeld3
import Derived.Deep.RegionLaw
import Derived.Deep.DeepCutAuto
import Derived.Deep.QuietTactic
import Derived.BigQuiet
import Derived.Maps.AppendAt
import Derived.OpenShut
import Derived.ChangeOld
import Derived.Deep.Slices
import Derived.Deep.Strs
import Derived.Lib.SmallJoins
import Derived.Lib.SliceRun
import Derived.Deep.AppendLies
namespace Go.Proofs.Ytcgpkonfneofdaa
open Go.ChangeShapes Go.WideShapes Go.ChangeAt Go.RowKit Go.Deep

section
variable {H : Type} {enc : TypeId × Value → H} {w : World} {base : Nat} {held : Bool}
set_option maxRecDepth 100000 in
theorem rs_of {n : Nat} {c0 c1 : Value} {y : DataW H × List MemPlace} (h : DataW.trod enc Try.prog w base (fun _ => true) held n 40 [c0, c1] = some y) :
    ∃ (d : Bool) (va : Option Addr) (vc : Nat) (zs : List Int), c0 = .bool d ∧ c1 = .slice va zs.length vc ∧ IsInts w va zs := by
  obtain ⟨y0, y1, m, _, _, h0, h1⟩ := trod_struct2 Try.underlying40 h
  have k4 : Try.prog.cellsOf 4 = 1 := by kernel_rfl
  have k22 : Try.prog.cellsOf 22 = 1 := by kernel_rfl
  simp only [k4, k22] at h0 h1
  obtain ⟨d, hd, _⟩ := DataW.trod_bool Try.underlying4 (show DataW.trod enc Try.prog w base (fun _ => true) held m 4 [c0] = some y0 by simpa using h0)
  obtain ⟨va, zs, vc, rfl, _, iz, _⟩ := open_rs (v := c1) (by simpa using h1)
  simp at hd
  exact ⟨d, va, vc, zs, hd, rfl, iz⟩
set_option maxRecDepth 100000 in
theorem open_res0 {n : Nat} {v : Value} {y : DataW H × List MemPlace} (h : DataW.trod enc Try.prog w base (fun _ => true) held n 24 [v] = some y) : ∃ (a : Option Addr) (r : List (Bool × List Int)) (cap : Nat), v = .slice a r.length cap ∧ r.length ≤ cap ∧ IsRes w a r := by
  have k40 : Try.prog.cellsOf 40 = 2 := by kernel_rfl
  rcases open_slice Try.underlying24 h with ⟨hcs, _⟩ | ⟨a, len, cap, m, n', D, Pl, hcs, _, hl, hm, hmm, _, hx⟩
  · simp at hcs
    exact ⟨none, [], 0, by simpa using hcs, by simp, fun i hi => absurd hi (by simp)⟩
  · simp at hcs
    have hlm : len ≤ m := by rw [hmm]; split <;> omega
    rw [k40] at hx
    obtain ⟨f, hf⟩ := choose_lt (α := Bool × Option Addr × Nat × List Int) (p := fun i x => w.cell? ((a.add (i * 2)).add 0) = some (.bool x.1) ∧ w.cell? ((a.add (i * 2)).add 1) = some (.slice x.2.1 x.2.2.2.length x.2.2.1) ∧ IsInts w x.2.1 x.2.2.2) (n := m) (fun i hi => by
      obtain ⟨cs', h1, h2⟩ := hx i hi
      obtain ⟨_, hlen, hc⟩ := World.cells?_some h1
      match cs', hlen with
      | [c0, c1], _ =>
        obtain ⟨d, va, vc, zs, rfl, rfl, hX⟩ := rs_of h2
        exact ⟨(d, va, vc, zs), hc 0 (by omega), hc 1 (by omega), hX⟩)
    obtain ⟨b, off, spot⟩ := a
    refine ⟨some ⟨b, off, spot⟩, (List.range len).map (fun i => ((f i).1, (f i).2.2.2)), cap, by simpa using hcs, by simp; omega, fun i hi => ?_⟩
    have hi' : i < len := by simpa using hi
    have hsp : spot = none := by
      have := World.cell?_spot (hf 0 (by omega)).1
      simpa [Addr.add] using this
    subst hsp
    obtain ⟨e0, e1, eX⟩ := hf i (by omega)
    rw [add_add] at e0 e1
    have eg : ((List.range len).map (fun i => ((f i).1, (f i).2.2.2))).getD i (false, []) = ((f i).1, (f i).2.2.2) := by simp [List.getD, hi']
    rw [eg]
    exact ⟨b, off, (f i).2.1, (f i).2.2.1, rfl, World.block_lt_of_cell? w _ e0, e0, e1, eX⟩
set_option maxRecDepth 100000 in
/-- Results that came in. -/
theorem open_res {b0 : Nat} {v : Value} {d : DataW H} {p : List MemPlace} (hv : Value.okWide Try.prog w .any b0 24 v) (h : DataW.Trod enc Try.prog w base (fun _ => true) held 24 v d p) :
    ∃ (a : Option Addr) (r : List (Bool × List Int)) (cap : Nat), v = .slice a r.length cap ∧ r.length ≤ cap ∧ IsRes w a r := by
  obtain ⟨za, zl, zc, rfl⟩ := okWide_slice Try.underlying24 hv
  obtain ⟨fuel, hf⟩ := h
  exact open_res0 (by simpa [Value.cells] using hf)
end

theorem rdV_few (s : List Int) (l : List TxA) (n : Int) : (rdV s l n).length ≤ maxLen := by
  by_cases h : rdE s l n = 0
  · obtain ⟨h1, N, rfl, hN⟩ := rdE_zero h
    have e : rdV s l (N : Nat) = rdL s l N := if_pos h
    have h4 := (right_reads (serE_zero h1).2 N hN).1
    rw [e]
    unfold rdL maxLen
    rw [List.length_map]
    omega
  · have e : rdV s l n = [] := if_neg h
    rw [e]
    exact Nat.zero_le _

variable (sa la ea ra : Option Addr) (sc lc ec rc : Nat) (s : List Int) (l : List TxA) (en : List Int) (r : List (Bool × List Int))

set_option maxRecDepth 100000 in
set_option maxHeartbeats 2000000 in
theorem auditTells_walk (n : Int) (w : World) (hs : IsInts w sa s) (hl : IsTxs w la l) (hlc : l.length ≤ lc) (he : IsInts w ea en) (hr : IsRes w ra r) (hrc : r.length ≤ rc) :
    Calls Try.prog 3 #[.slice sa s.length sc, .slice la l.length lc, .slice ea en.length ec, .slice ra r.length rc, .int .i64 n] w fun e w' => e = .returned (.bool true) ∧ Below w.heap.size w w' := by
  have C1 : Hid (Calls Try.prog 7 #[.slice sa s.length sc, .slice la l.length lc, .slice ea en.length ec, .slice ra r.length rc] w fun e w' => e = .returned (.tuple #[.int .i64 (audV s l en r), .int .i64 (audE s l en r)]) ∧ Below w.heap.size w w') := audit_any sa la ea ra sc lc ec rc s l en r w hs hl he hr
  have C2 : Hid (∀ w', Below w.heap.size w w' → Calls Try.prog 8 #[.slice sa s.length sc, .slice la l.length lc, .int .i64 n] w' fun e w'' => ∃ a c, e = .returned (.tuple #[.slice a (rdV s l n).length c, .int .i64 (rdE s l n)]) ∧ IsInts w'' a (rdV s l n) ∧ Below w'.heap.size w' w'') := fun w' hb => reads_any' sa la sc lc s l n w' (hs.below hb) (hl.below hb) hlc
  have C3 : Hid (∀ w', Below w.heap.size w w' → Calls Try.prog 9 #[.slice sa s.length sc, .slice la l.length lc, .slice ea en.length ec, .slice ra r.length rc] w' fun e w'' => e = .returned (.tuple #[.int .i64 (audV s l en r), .int .i64 (audE s l en r)]) ∧ Below w'.heap.size w' w'') := fun w' hb => docAud_any sa la ea ra sc lc ec rc s l en r w' (hs.below hb) (hl.below hb) (he.below hb) (hr.below hb) hrc
  have C4 : Hid (∀ w', Below w.heap.size w w' → Calls Try.prog 10 #[.slice sa s.length sc, .slice la l.length lc, .int .i64 n] w' fun e w'' => ∃ a c, e = .returned (.tuple #[.slice a (rdV s l n).length c, .int .i64 (rdE s l n)]) ∧ IsInts w'' a (rdV s l n) ∧ Below w'.heap.size w' w'') := fun w' hb => docRd_any sa la sc lc s l n w' (hs.below hb) (hl.below hb)
  have FW : Hid ((rdV s l n).length ≤ maxLen) := rdV_few s l n
  clear hs hl he hr hlc hrc
  generalize rdV s l n = V at *
  generalize rdE s l n = E2 at *
  generalize audV s l en r = v at *
  generalize audE s l en r = E1 at *
  go_enter Try.func3, Try.ntmps3
  go_wp2_with fail
  refine C1.out.mono ?_
  rintro e w1 ⟨rfl, hb1⟩
  go_wp2_with fail
  refine (C2.out _ hb1).mono ?_
  rintro e w2 ⟨a, c, rfl, ha, hb2⟩
  have B2 : Hid (Below w.heap.size w w2) := grow_trans hb1 hb2
  have HA : Hid (IsInts w2 a V) := ha
  clear hb1 hb2 ha
  go_wp2_with fail
  refine (C3.out _ B2.out).mono ?_
  rintro e w3 ⟨rfl, hb3⟩
  have B3 : Hid (Below w.heap.size w w3) := grow_trans B2.out hb3
  go_wp2_with fail
  refine (C4.out _ B3.out).mono ?_
  rintro e w4 ⟨a', c', rfl, ha', hb4⟩
  have B4 : Hid (Below w.heap.size w w4) := grow_trans B3.out hb4
  have HA4 : Hid (IsInts w4 a V) := HA.out.below (grow_trans hb3 hb4)
  have HB4 : Hid (IsInts w4 a' V) := ha'
  clear hb3 hb4 ha' HA C1 C2 C3 C4
  go_wp2_with fail
  refine (auditBegun_any _).mono ?_
  rintro e w5 ⟨rfl, hb5⟩
  go_wp2_with fail
  refine (sameInts_any V V a a' c c' _ FW.out (HA4.out.below hb5) (HB4.out.below hb5)).mono ?_
  rintro e w6 ⟨rfl, hb6⟩
  rw [decide_eq_true rfl]
  have B6 : Hid (Below w.heap.size w w6) := grow_trans B4.out (grow_trans hb5 hb6)
  clear hb5 hb6
  go_wp2
  go_ret
  exact ⟨rfl, B6.out⟩
end Go.Proofs.Ytcgpkonfneofdaa
