/-
  store.Serial and store.Apply: what they answer, errors too.
  Conditions: what they are handed can be read.
-/
import Derived.Test.YtcgpkonfneofdaaStoreF
import Derived.WalkKit
import Derived.WalkSpells
import Derived.WalkLawsBesides
import Derived.Defers
import Derived.Recover
import Derived.ProofKit
import Derived.Deep.RegionHeld
import Derived.Deep.RegionHeld3
import Derived.Deep.DeepCutAuto
import Derived.BigQuiet
namespace Go.Proofs.Ytcgpkonfneofdaa
open Go.RowKit

/-- A store and results that were made from block C on. -/
def SO (C : Nat) (w : World) (ea : Option Addr) (ec : Nat) (xa : Option Addr) (xc : Nat) (E : List Int) (R : List (Bool × List Int)) : Prop :=
  IsAt C w.heap.size w ea E ∧ (ea = none → ec = 0) ∧ ∃ rl, ResRow C w (.slice xa R.length xc) rl ∧ rl.map RsA.told = R
set_option maxRecDepth 100000 in
theorem SO.set {C : Nat} {w : World} {ea xa : Option Addr} {ec xc : Nat} {E : List Int} {R : List (Bool × List Int)} (h : SO C w ea ec xa xc E R) (b i : Nat) (v : Value) (hb : b < C) : SO C (w.setCell ⟨b, i, none⟩ v) ea ec xa xc E R := by
  obtain ⟨h1, h2, rl, h3, h4⟩ := h
  exact ⟨(h1.set ⟨b, i, none⟩ v (.inl hb)).widen (Nat.le_refl _) (by simp), h2, rl, h3.kept (grownBy_one w b i v) (fun j e => by injection e with e; omega), h4⟩
set_option maxRecDepth 100000 in
theorem SO.below {C : Nat} {w w' : World} {ea xa : Option Addr} {ec xc : Nat} {E : List Int} {R : List (Bool × List Int)} (h : SO C w ea ec xa xc E R) (hb : Below w.heap.size w w') : SO C w' ea ec xa xc E R := by
  obtain ⟨h1, h2, rl, h3, h4⟩ := h
  exact ⟨(h1.below hb).widen (Nat.le_refl _) hb.size, h2, rl, h3.below hb, h4⟩
set_option maxRecDepth 100000 in
theorem SO.mono {C C' : Nat} {w : World} {ea xa : Option Addr} {ec xc : Nat} {E : List Int} {R : List (Bool × List Int)} (h : SO C w ea ec xa xc E R) (hc : C' ≤ C) : SO C' w ea ec xa xc E R := by
  obtain ⟨h1, h2, rl, h3, h4⟩ := h
  exact ⟨h1.widen hc (Nat.le_refl _), h2, rl, resRow_mono h3 hc, h4⟩
set_option maxRecDepth 100000 in
theorem SO.ints {C : Nat} {w : World} {ea xa : Option Addr} {ec xc : Nat} {E : List Int} {R : List (Bool × List Int)} (h : SO C w ea ec xa xc E R) : IsInts w ea E := h.1.ints (Nat.le_refl _)
set_option maxRecDepth 100000 in
theorem SO.res {C : Nat} {w : World} {ea xa : Option Addr} {ec xc : Nat} {E : List Int} {R : List (Bool × List Int)} (h : SO C w ea ec xa xc E R) : IsRes w xa R := by
  obtain ⟨h1, h2, rl, h3, h4⟩ := h
  obtain ⟨a, cap, he, hr⟩ := h3.res
  injection he with e1 e2 e3
  subst e1
  rw [h4] at hr
  exact hr
set_option maxRecDepth 100000 in
theorem so_none (C : Nat) (w : World) : SO C w none 0 none 0 [] [] := ⟨fun i hi => absurd hi (by simp), fun _ => rfl, [], resRow_nil _ _, rfl⟩

/-- The error of a store. -/
def lenE (s : List Int) : Int := if s.length = 8 then 0 else 1
theorem storeCheck_e (s : List Int) (sa : Option Addr) (sc : Nat) (w : World) :
    Calls Try.prog 26 #[.slice sa s.length sc] w fun e w' => e = .returned (.int .i64 (lenE s)) ∧ w' = w := storeCheck_any s sa sc w

/-- The error of Serial. -/
def serE (s : List Int) (l : List TxA) : Int := firstNZ [lenE s, chkL l]
set_option maxRecDepth 100000 in
theorem serE_zero {s : List Int} {l : List TxA} (h : serE s l = 0) : s.length = 8 ∧ chkL l = 0 := by
  have h' := firstNZ_zero _ h
  have h0 : lenE s = 0 := by simpa using h' 0
  unfold lenE at h0
  refine ⟨?_, by simpa using h' 1⟩
  by_cases c : s.length = 8
  · exact c
  · rw [if_neg c] at h0; omega

set_option maxRecDepth 100000 in
theorem ext2 {W w' : World} {p1 p2 : Addr} {v1 v2 : Value} (hb : Below W.heap.size W w') (q1 : W.cell? p1 = some v1) (q2 : W.cell? p2 = some v2) :
    Below W.heap.size W w' ∧ w'.cell? p1 = some v1 ∧ w'.cell? p2 = some v2 := ⟨hb, ext_cell hb q1, ext_cell hb q2⟩

variable (sa la : Option Addr) (sc lc : Nat) (s : List Int) (l : List TxA)

set_option maxRecDepth 100000 in
set_option maxHeartbeats 2000000 in
theorem ser1_pan (p q : Nat) (w : World) (h0 : w.cell? ⟨p, 0, none⟩ = some (.slice sa s.length sc)) (h1 : w.cell? ⟨q, 0, none⟩ = some (.slice la l.length lc)) (hl : IsTxs w la l) (he : ¬ serE s l = 0) :
    Calls Try.prog 45 #[.pointer (some ⟨p, 0, none⟩), .pointer (some ⟨q, 0, none⟩)] w fun e w' => e = .panicked [{ v := .iface 25 (.int .i64 (serE s l)), recovered := false }] ∧ Below w.heap.size w w' := by
  have HE : Hid (¬ firstNZ [lenE s, chkL l] = 0) := he
  have HV : Hid (serE s l = firstNZ [lenE s, chkL l]) := rfl
  clear he
  have hW : Hid (Below w.heap.size w (w.alloc (.cells #[.slice none 0 0, .slice none 0 0] 80))) := grow_alloc (Below.refl _ _) _
  have HLW : Hid (IsTxs (w.alloc (.cells #[.slice none 0 0, .slice none 0 0] 80)) la l) := hl.below hW.out
  have y0 := ext_cell hW.out h0
  have y1 := ext_cell hW.out h1
  clear hl h0 h1
  go_enter Try.func45, Try.ntmps45
  go_wp2_with fail
  generalize w.alloc (.cells #[.slice none 0 0, .slice none 0 0] 80) = W at *
  go_region_held (fun w' => Below W.heap.size W w' ∧ w'.cell? ⟨p, 0, none⟩ = some (.slice sa s.length sc) ∧ w'.cell? ⟨q, 0, none⟩ = some (.slice la l.length lc)) ((go_split_ands; refine ext2 ?_ y0 y1; repeat (first | assumption | exact Below.refl _ _ | refine grow_drew ?_ | refine grow_alloc ?_ _ | refine grow_trans ?_ (by assumption))))
    (first
      | (go_at_call 26; refine (storeCheck_e s sa sc _).mono ?_; rintro e w' ⟨rfl, rfl⟩)
      | (go_at_call 46; refine (orderCheck_any la lc l _ ?_).mono ?_; (refine HLW.out.below ?_; go_split_ands; repeat (first | assumption | exact Below.refl _ _ | refine grow_drew ?_ | refine grow_alloc ?_ _ | refine grow_trans ?_ (by assumption))); rintro e w' ⟨rfl, hbx⟩)
      | (go_at_call 25; refine (panic_or (leave_nz [lenE s, chkL l] _ 2 _ (by simp) HE.out ?_) (.tuple #[])).mono ?_; (exact errs2 _ _ _ _ (by simp)); rintro e w' (⟨rfl, rfl⟩ | ⟨hF, rfl, rfl⟩); (refine ⟨rfl, by rw [HV.out], grow_trans hW.out ?_⟩; go_split_ands; repeat (first | assumption | exact Below.refl _ _ | refine grow_drew ?_ | refine grow_alloc ?_ _ | refine grow_trans ?_ (by assumption)))))
  exact (‹Hid False› : Hid False).out.elim

set_option maxRecDepth 100000 in
set_option maxHeartbeats 4000000 in
theorem ser1_ok (p q : Nat) (w : World) (h0 : w.cell? ⟨p, 0, none⟩ = some (.slice sa s.length sc)) (h1 : w.cell? ⟨q, 0, none⟩ = some (.slice la l.length lc)) (hs : IsInts w sa s) (hl : IsTxs w la l) (he : serE s l = 0) :
    Calls Try.prog 45 #[.pointer (some ⟨p, 0, none⟩), .pointer (some ⟨q, 0, none⟩)] w fun e w' => ∃ ea ec xa xc, e = .returned (.agg #[.slice ea (serEnd s l).length ec, .slice xa (serRes s l).length xc]) ∧ SO w.heap.size w' ea ec xa xc (serEnd s l) (serRes s l) ∧ Below w.heap.size w w' := by
  have H8 : Hid (s.length = 8) := (serE_zero he).1
  have HC : Hid (chkL l = 0) := (serE_zero he).2
  have HE : Hid (firstNZ [lenE s, chkL l] = 0) := he
  have HLN : Hid ((serEnd s l).length = s.length) := serEnd_len _ _
  clear he
  have hW : Hid (Below w.heap.size w (w.alloc (.cells #[.slice none 0 0, .slice none 0 0] 80))) := grow_alloc (Below.refl _ _) _
  have HLW : Hid (IsTxs (w.alloc (.cells #[.slice none 0 0, .slice none 0 0] 80)) la l) := hl.below hW.out
  have HSW : Hid (IsInts (w.alloc (.cells #[.slice none 0 0, .slice none 0 0] 80)) sa s) := hs.below hW.out
  have y0 := ext_cell hW.out h0
  have y1 := ext_cell hW.out h1
  have v0 : (w.alloc (.cells #[.slice none 0 0, .slice none 0 0] 80)).cell? ⟨w.heap.size, 0, none⟩ = some (.slice none 0 0) := by simp
  have v1 : (w.alloc (.cells #[.slice none 0 0, .slice none 0 0] 80)).cell? ⟨w.heap.size, 1, none⟩ = some (.slice none 0 0) := by simp
  have vf : ∀ j, (w.alloc (.cells #[.slice none 0 0, .slice none 0 0] 80)).frozen? ⟨w.heap.size, j, none⟩ = false := fun j => by simp
  have hqW : w.heap.size < (w.alloc (.cells #[.slice none 0 0, .slice none 0 0] 80)).heap.size := by simp
  clear hl hs h0 h1
  go_enter Try.func45, Try.ntmps45
  go_wp2_with fail
  generalize w.alloc (.cells #[.slice none 0 0, .slice none 0 0] 80) = W at *
  go_region_held3 (fun w' => Below W.heap.size W w' ∧ w'.cell? ⟨p, 0, none⟩ = some (.slice sa s.length sc) ∧ w'.cell? ⟨q, 0, none⟩ = some (.slice la l.length lc)) ((go_split_ands; refine ext2 ?_ y0 y1; repeat (first | assumption | exact Below.refl _ _ | refine grow_drew ?_ | refine grow_alloc ?_ _ | refine grow_trans ?_ (by assumption))))
    (first
      | (go_at_call 26; refine (storeCheck_e s sa sc _).mono ?_; rintro e w' ⟨rfl, rfl⟩)
      | (go_at_call 46; refine (orderCheck_any la lc l _ ?_).mono ?_; (refine HLW.out.below ?_; go_split_ands; repeat (first | assumption | exact Below.refl _ _ | refine grow_drew ?_ | refine grow_alloc ?_ _ | refine grow_trans ?_ (by assumption))); rintro e w' ⟨rfl, hbx⟩)
      | (go_at_call 25; refine (leave_zero [lenE s, chkL l] _ 2 _ (by simp) HE.out ?_).mono ?_; (exact errs2 _ _ _ _ (by simp)); rintro e w' ⟨rfl, rfl⟩))
  all_goals (
    go_split_ands
    go_wp2_with fail
    refine (outcomeOf_any sa la sc lc s l _ (HSW.out.below ?_) H8.out (HLW.out.below ?_) HC.out).mono ?_
    · assumption
    · assumption
    rintro e w2 ⟨g, cap, xv, rl, rfl, hst, hres, htl, hb2⟩
    obtain ⟨xa, xc, hv⟩ : ∃ xa xc, xv = .slice xa rl.length xc := by
      rcases hres.1.2 with ⟨h, h0⟩ | ⟨g2, cap2, cur, h, _⟩
      · exact ⟨none, 0, by rw [h, h0]⟩
      · exact ⟨_, _, h⟩
    subst hv
    have hrl : rl.length = (serRes s l).length := by rw [← htl, List.length_map]
    rw [hrl] at hres ⊢
    rw [← HLN.out] at hst ⊢
    have hb3 : Below W.heap.size W w2 := by
      refine grow_trans ?_ hb2
      assumption
    have hso : Hid (SO (w.heap.size + 1) w2 (some ⟨g, 0, none⟩) cap xa xc (serEnd s l) (serRes s l)) := by
      obtain ⟨a', c', he', hi'⟩ := at_of_owns hst
      injection he' with e1 e2 e3
      subst e1
      exact SO.mono ⟨hi', (fun h => by cases h), rl, hres, htl⟩ (Nat.le_trans hqW (Below.size (B := W.heap.size) (by assumption)))
    have x0 := ext_cell hb3 v0
    have x1 := ext_cell hb3 v1
    have xf : ∀ j, w2.frozen? ⟨w.heap.size, j, none⟩ = false := fun j => (hb3.frozen (p := ⟨w.heap.size, j, none⟩) hqW).trans (vf j)
    have B3 : Hid (Below w.heap.size w w2) := grow_trans hW.out hb3
    clear hst hres htl hb2 hb3 v0 v1 vf HLW HSW HLN hrl
    go_wp2
    refine bodyPost_ret (v := .agg #[.slice (some ⟨g, 0, none⟩) (serEnd s l).length cap, .slice xa (serRes s l).length xc]) (by simp [results, Try.results45, go_sem, x0, x1]) rfl ⟨_, cap, xa, xc, rfl, ?_, ?_⟩
    · exact ((hso.out.set _ 0 _ (Nat.lt_succ_self _)).set _ 1 _ (Nat.lt_succ_self _)).mono (by omega)
    · exact grow_set (grow_set B3.out (Nat.le_refl _) _) (Nat.le_refl _) _)
set_option maxRecDepth 100000 in
theorem catchS_panicking (p : Addr) (x y : Int) (older : List PanicEntry) (w : World) (hc : w.cell? p = some (.int .i64 y)) (hz : w.frozen? p = false) :
    CallsD Try.prog 73 #[.pointer (some p)] (.panicking ({ v := .iface 25 (.int .i64 x), recovered := false } :: older)) w fun e u' w' =>
      e = .returned (.tuple #[]) ∧ u' = .panicking ({ v := .iface 25 (.int .i64 x), recovered := true } :: older) ∧ w' = w.setCell p (.int .i64 x) := by
  refine callsD_of_wpS Try.func73 rfl fun c₀ cs hu => ?_
  apply wpS_seq
  apply wpS_region
  simp [wpOpsS, go_sem, recoverD, hu, Try.ntmps73, Exit.thenS]
  apply wpS_seq
  apply wpS_region
  simp [wpOpsS, go_sem, Exit.thenS]
  refine wpS_cond (t := true) (by simp [Act.eval, Array.replicate]) ?_
  simp only [if_true]
  apply wpS_region
  simp [wpOpsS, go_sem, assert_errno, hc, hz, bodyPostS, results, Try.results73]

set_option maxRecDepth 100000 in
theorem catchS_idle (p : Addr) (w : World) :
    CallsD Try.prog 73 #[.pointer (some p)] .returning w fun e u' w' => e = .returned (.tuple #[]) ∧ u' = .returning ∧ w' = w := by
  refine callsD_of_wpS Try.func73 rfl fun c₀ cs hu => ?_
  apply wpS_seq
  apply wpS_region
  simp [wpOpsS, go_sem, recoverD, hu, Try.ntmps73, Exit.thenS]
  apply wpS_seq
  apply wpS_region
  simp [wpOpsS, go_sem, Exit.thenS]
  refine wpS_cond (t := false) (by simp [Act.eval, Array.replicate]) ?_
  simp only [Bool.false_eq_true, if_false]
  refine wpS_of_wp (wp_skip ?_)
  cases c₀
  simp_all [bodyPostS, results, Try.results73]

set_option maxRecDepth 100000 in
set_option maxHeartbeats 1000000 in
theorem caught_s_ret (cap : Array Value) (E : List Int) (R : List (Bool × List Int)) (w : World)
    (h : Calls Try.prog 45 cap ((w.alloc (.cells #[.slice none 0 0, .slice none 0 0] 80)).alloc (.cells #[.int .i64 0] 25)) fun e w' => ∃ ea ec xa xc, e = .returned (.agg #[.slice ea E.length ec, .slice xa R.length xc]) ∧ SO ((w.alloc (.cells #[.slice none 0 0, .slice none 0 0] 80)).alloc (.cells #[.int .i64 0] 25)).heap.size w' ea ec xa xc E R ∧ Below ((w.alloc (.cells #[.slice none 0 0, .slice none 0 0] 80)).alloc (.cells #[.int .i64 0] 25)).heap.size ((w.alloc (.cells #[.slice none 0 0, .slice none 0 0] 80)).alloc (.cells #[.int .i64 0] 25)) w') :
    Calls Try.prog 44 #[.func (.func 45) #[] cap] w fun e w' => ∃ ea ec xa xc, e = .returned (.tuple #[.agg #[.slice ea E.length ec, .slice xa R.length xc], .int .i64 0]) ∧ SO w.heap.size w' ea ec xa xc E R ∧ Below w.heap.size w w' := by
  have hmf : ∀ (fn : Fn) (first cap : Array Value) (w : World), (Instr.makeFunc fn first cap).run Try.prog w = .ok (.func fn first cap) w := fun _ _ _ _ => rfl
  have H : Hid (Calls Try.prog 45 cap ((w.alloc (.cells #[.slice none 0 0, .slice none 0 0] 80)).alloc (.cells #[.int .i64 0] 25)) fun e w' => ∃ ea ec xa xc, e = .returned (.agg #[.slice ea E.length ec, .slice xa R.length xc]) ∧ SO ((w.alloc (.cells #[.slice none 0 0, .slice none 0 0] 80)).alloc (.cells #[.int .i64 0] 25)).heap.size w' ea ec xa xc E R ∧ Below ((w.alloc (.cells #[.slice none 0 0, .slice none 0 0] 80)).alloc (.cells #[.int .i64 0] 25)).heap.size ((w.alloc (.cells #[.slice none 0 0, .slice none 0 0] 80)).alloc (.cells #[.int .i64 0] 25)) w') := h
  clear h
  go_enter_defers Try.func44, Try.ntmps44
  go_wp2_with fail
  refine H.out.mono ?_
  clear H
  rintro e w1 ⟨ea, ec, xa, xc, rfl, hso, hb⟩
  have e0 : w1.cell? ⟨w.heap.size + 1, 0, none⟩ = some (.int .i64 0) := (hb.cell (by simp)).trans (by simp)
  have ef : ∀ j, w1.frozen? ⟨w.heap.size + 1, j, none⟩ = false := fun j => (hb.frozen (p := ⟨w.heap.size + 1, j, none⟩) (by simp)).trans (by simp)
  have c0 : w1.cell? ⟨w.heap.size, 0, none⟩ = some (.slice none 0 0) := (hb.cell (by simp; omega)).trans ((World.cell?_alloc_lt _ _ _ (by simp)).trans (by simp))
  have c1 : w1.cell? ⟨w.heap.size, 1, none⟩ = some (.slice none 0 0) := (hb.cell (by simp; omega)).trans ((World.cell?_alloc_lt _ _ _ (by simp)).trans (by simp))
  have cf : ∀ j, w1.frozen? ⟨w.heap.size, j, none⟩ = false := fun j => (hb.frozen (p := ⟨w.heap.size, j, none⟩) (by simp; omega)).trans (((grow_alloc (Below.refl (w.alloc (.cells #[.slice none 0 0, .slice none 0 0] 80)).heap.size (w.alloc (.cells #[.slice none 0 0, .slice none 0 0] 80))) (.cells #[.int .i64 0] 25)).frozen (p := ⟨w.heap.size, j, none⟩) (by simp)).trans (by simp))
  have hso' : Hid (SO (w.heap.size + 2) w1 ea ec xa xc E R) := hso.mono (by simp)
  have B1 : Hid (Below w.heap.size w w1) := grow_trans (grow_alloc (grow_alloc (Below.refl _ _) _) _) hb
  clear hb hso
  go_wp2
  refine leaves_cons (f := 73) (args := #[.pointer (some ⟨w.heap.size + 1, 0, none⟩)]) (by simp) (by simp [go_sem]) ?_
  refine (catchS_idle ⟨w.heap.size + 1, 0, none⟩ _).mono ?_
  rintro e u' w'' ⟨rfl, rfl, rfl⟩
  simp [Leaves, settle, results, Try.results44, go_sem, e0, c0, c1]
  refine ⟨ea, ec, xa, xc, ⟨⟨rfl, rfl⟩, rfl, rfl⟩, ?_, ?_⟩
  · exact (((hso'.out.set _ 0 _ (by omega)).set _ 1 _ (by omega)).set _ 0 _ (by omega)).mono (by omega)
  · exact grow_set (grow_set (grow_set B1.out (Nat.le_refl _) _) (Nat.le_refl _) _) (by simp) _

set_option maxRecDepth 100000 in
set_option maxHeartbeats 1000000 in
theorem caught_s_pan (cap : Array Value) (x : Int) (w : World)
    (h : Calls Try.prog 45 cap ((w.alloc (.cells #[.slice none 0 0, .slice none 0 0] 80)).alloc (.cells #[.int .i64 0] 25)) fun e w' => e = .panicked [{ v := .iface 25 (.int .i64 x), recovered := false }] ∧ Below ((w.alloc (.cells #[.slice none 0 0, .slice none 0 0] 80)).alloc (.cells #[.int .i64 0] 25)).heap.size ((w.alloc (.cells #[.slice none 0 0, .slice none 0 0] 80)).alloc (.cells #[.int .i64 0] 25)) w') :
    Calls Try.prog 44 #[.func (.func 45) #[] cap] w fun e w' => e = .returned (.tuple #[.agg #[.slice none 0 0, .slice none 0 0], .int .i64 x]) ∧ Below w.heap.size w w' := by
  have hmf : ∀ (fn : Fn) (first cap : Array Value) (w : World), (Instr.makeFunc fn first cap).run Try.prog w = .ok (.func fn first cap) w := fun _ _ _ _ => rfl
  have H : Hid (Calls Try.prog 45 cap ((w.alloc (.cells #[.slice none 0 0, .slice none 0 0] 80)).alloc (.cells #[.int .i64 0] 25)) fun e w' => e = .panicked [{ v := .iface 25 (.int .i64 x), recovered := false }] ∧ Below ((w.alloc (.cells #[.slice none 0 0, .slice none 0 0] 80)).alloc (.cells #[.int .i64 0] 25)).heap.size ((w.alloc (.cells #[.slice none 0 0, .slice none 0 0] 80)).alloc (.cells #[.int .i64 0] 25)) w') := h
  clear h
  go_enter_defers Try.func44, Try.ntmps44
  go_wp2_with fail
  refine H.out.mono ?_
  clear H
  rintro e w1 ⟨rfl, hb⟩
  have e0 : w1.cell? ⟨w.heap.size + 1, 0, none⟩ = some (.int .i64 0) := (hb.cell (by simp)).trans (by simp)
  have ef : w1.frozen? ⟨w.heap.size + 1, 0, none⟩ = false := (hb.frozen (p := ⟨w.heap.size + 1, 0, none⟩) (by simp)).trans (by simp)
  have c0 : w1.cell? ⟨w.heap.size, 0, none⟩ = some (.slice none 0 0) := (hb.cell (by simp; omega)).trans ((World.cell?_alloc_lt _ _ _ (by simp)).trans (by simp))
  have c1 : w1.cell? ⟨w.heap.size, 1, none⟩ = some (.slice none 0 0) := (hb.cell (by simp; omega)).trans ((World.cell?_alloc_lt _ _ _ (by simp)).trans (by simp))
  have B1 : Below w.heap.size w w1 := grow_trans (grow_alloc (grow_alloc (Below.refl _ _) _) _) hb
  clear hb
  refine leaves_cons (f := 73) (args := #[.pointer (some ⟨w.heap.size + 1, 0, none⟩)]) (by simp) (by simp [go_sem]) ?_
  refine (catchS_panicking ⟨w.heap.size + 1, 0, none⟩ x 0 [] _ e0 ef).mono ?_
  rintro e u' w'' ⟨rfl, rfl, rfl⟩
  simp [Leaves, settle, results, Try.results44, go_sem, e0, c0, c1]
  exact grow_set B1 (by simp) _

/-- What Serial tells: nothing, if there is an error. -/
def sEnd (s : List Int) (l : List TxA) : List Int := if serE s l = 0 then serEnd s l else []
def sRes (s : List Int) (l : List TxA) : List (Bool × List Int) := if serE s l = 0 then serRes s l else []

set_option maxRecDepth 100000 in
set_option maxHeartbeats 1000000 in
theorem serial_by (E : List Int) (R : List (Bool × List Int)) (x : Int) (w : World)
    (h : Calls Try.prog 44 #[.func (.func 45) #[] #[.pointer (some ⟨w.heap.size, 0, none⟩), .pointer (some ⟨w.heap.size + 1, 0, none⟩)]] ((w.alloc (.cells #[.slice sa s.length sc] 22)).alloc (.cells #[.slice la l.length lc] 23)) fun e w' => ∃ ea ec xa xc, e = .returned (.tuple #[.agg #[.slice ea E.length ec, .slice xa R.length xc], .int .i64 x]) ∧ SO ((w.alloc (.cells #[.slice sa s.length sc] 22)).alloc (.cells #[.slice la l.length lc] 23)).heap.size w' ea ec xa xc E R ∧ Below ((w.alloc (.cells #[.slice sa s.length sc] 22)).alloc (.cells #[.slice la l.length lc] 23)).heap.size ((w.alloc (.cells #[.slice sa s.length sc] 22)).alloc (.cells #[.slice la l.length lc] 23)) w') :
    Calls Try.prog 13 #[.slice sa s.length sc, .slice la l.length lc] w fun e w' => ∃ ea ec xa xc, e = .returned (.tuple #[.slice ea E.length ec, .slice xa R.length xc, .int .i64 x]) ∧ SO w.heap.size w' ea ec xa xc E R ∧ Below w.heap.size w w' := by
  have hmf : ∀ (fn : Fn) (first cap : Array Value) (w : World), (Instr.makeFunc fn first cap).run Try.prog w = .ok (.func fn first cap) w := fun _ _ _ _ => rfl
  have H := h
  have H' : Hid (Calls Try.prog 44 #[.func (.func 45) #[] #[.pointer (some ⟨w.heap.size, 0, none⟩), .pointer (some ⟨w.heap.size + 1, 0, none⟩)]] ((w.alloc (.cells #[.slice sa s.length sc] 22)).alloc (.cells #[.slice la l.length lc] 23)) fun e w' => ∃ ea ec xa xc, e = .returned (.tuple #[.agg #[.slice ea E.length ec, .slice xa R.length xc], .int .i64 x]) ∧ SO ((w.alloc (.cells #[.slice sa s.length sc] 22)).alloc (.cells #[.slice la l.length lc] 23)).heap.size w' ea ec xa xc E R ∧ Below ((w.alloc (.cells #[.slice sa s.length sc] 22)).alloc (.cells #[.slice la l.length lc] 23)).heap.size ((w.alloc (.cells #[.slice sa s.length sc] 22)).alloc (.cells #[.slice la l.length lc] 23)) w') := H
  clear h H
  go_enter Try.func13, Try.ntmps13
  go_wp2_with fail
  refine H'.out.mono ?_
  clear H'
  rintro e w1 ⟨ea, ec, xa, xc, rfl, hso, hb⟩
  have hso' : Hid (SO w.heap.size w1 ea ec xa xc E R) := hso.mono (by simp; omega)
  have B1 : Hid (Below w.heap.size w w1) := grow_trans (grow_alloc (grow_alloc (Below.refl _ _) _) _) hb
  clear hso hb
  go_wp2
  go_region
  go_wp2
  go_ret3
  exact ⟨ea, ec, xa, xc, rfl, hso'.out.below (grow_drew (grow_alloc (Below.refl _ _) _)), grow_drew (grow_alloc B1.out _)⟩

set_option maxRecDepth 100000 in
theorem serial_any (w : World) (hs : IsInts w sa s) (hl : IsTxs w la l) :
    Calls Try.prog 13 #[.slice sa s.length sc, .slice la l.length lc] w fun e w' => ∃ ea ec xa xc, e = .returned (.tuple #[.slice ea (sEnd s l).length ec, .slice xa (sRes s l).length xc, .int .i64 (serE s l)]) ∧ SO w.heap.size w' ea ec xa xc (sEnd s l) (sRes s l) ∧ Below w.heap.size w w' := by
  have hg : Below w.heap.size w ((((w.alloc (.cells #[.slice sa s.length sc] 22)).alloc (.cells #[.slice la l.length lc] 23)).alloc (.cells #[.slice none 0 0, .slice none 0 0] 80)).alloc (.cells #[.int .i64 0] 25)) := grow_alloc (grow_alloc (grow_alloc (grow_alloc (Below.refl _ _) _) _) _) _
  have h0 : ((((w.alloc (.cells #[.slice sa s.length sc] 22)).alloc (.cells #[.slice la l.length lc] 23)).alloc (.cells #[.slice none 0 0, .slice none 0 0] 80)).alloc (.cells #[.int .i64 0] 25)).cell? ⟨w.heap.size, 0, none⟩ = some (.slice sa s.length sc) := by
    rw [World.cell?_alloc_lt _ _ _ (by simp; omega), World.cell?_alloc_lt _ _ _ (by simp; omega), World.cell?_alloc_lt _ _ _ (by simp)]; simp
  have h1 : ((((w.alloc (.cells #[.slice sa s.length sc] 22)).alloc (.cells #[.slice la l.length lc] 23)).alloc (.cells #[.slice none 0 0, .slice none 0 0] 80)).alloc (.cells #[.int .i64 0] 25)).cell? ⟨w.heap.size + 1, 0, none⟩ = some (.slice la l.length lc) := by
    rw [World.cell?_alloc_lt _ _ _ (by simp), World.cell?_alloc_lt _ _ _ (by simp)]; simp
  by_cases he : serE s l = 0
  · have e1 : sEnd s l = serEnd s l := if_pos he
    have e2 : sRes s l = serRes s l := if_pos he
    rw [e1, e2, he]
    exact serial_by sa la sc lc s l _ _ _ w (caught_s_ret _ _ _ _ (ser1_ok sa la sc lc s l _ _ _ h0 h1 (hs.below hg) (hl.below hg) he))
  · have e1 : sEnd s l = [] := if_neg he
    have e2 : sRes s l = [] := if_neg he
    rw [e1, e2]
    refine serial_by sa la sc lc s l _ _ _ w ((caught_s_pan _ _ _ (ser1_pan sa la sc lc s l _ _ _ h0 h1 (hl.below hg) he)).mono ?_)
    exact fun _ _ ⟨q1, q2⟩ => ⟨none, 0, none, 0, q1, so_none _ _, q2⟩
end Go.Proofs.Ytcgpkonfneofdaa
