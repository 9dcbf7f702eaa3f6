/-
  A hall in memory, and who is gone there, who has read all.
  Conditions: those that each theorem states.
-/
import Derived.Test.YtebjkmknhpgemaaGreatStepsA
import Derived.Test.YtebjkmknhpgemaaGreatPlaceC
import Derived.Test.YtebjkmknhpgemaaGreatPlaceB
import Derived.WalkKit
import Derived.WalkSpells
import Derived.WalkLawsBesides
import Derived.Defers
import Derived.Recover
import Derived.ProofKit
import Derived.Deep.RegionHeld
import Derived.Deep.RegionHeld3
import Derived.Deep.RegionLaw
import Derived.Deep.DeepCutAuto
import Derived.Deep.QuietTactic
import Derived.BigQuiet
import Derived.Maps.AppendAt
import Derived.Lib.SliceRun
import Derived.Deep.AppendLies
namespace Go.Proofs.YtebjkmknhpgemaaGreat
open Go.RowKit

/-- Rows of truths, n of them, each of sh truths, that can be read; all lie from block lo on. -/
def IsBR (lo : Nat) (w : World) (a : Option Addr) (n sh : Nat) (F : Nat → Nat → Bool) : Prop :=
  ∀ i, i < n → ∃ b off b' off' c', a = some ⟨b, off, none⟩ ∧ (lo ≤ b ∧ b < w.heap.size) ∧ (lo ≤ b' ∧ b' < w.heap.size) ∧ w.cell? ⟨b, off + i, none⟩ = some (.slice (some ⟨b', off', none⟩) sh c') ∧ ∀ k, k < sh → w.cell? ⟨b', off' + k, none⟩ = some (.bool (F i k))
/-- Rows of values, one for each transaction, as many as it has reads. -/
def IsIR (lo : Nat) (w : World) (a : Option Addr) (l : List TxA) (V : List (List Int)) : Prop :=
  ∀ i, i < l.length → ∃ b off a' c', a = some ⟨b, off, none⟩ ∧ (lo ≤ b ∧ b < w.heap.size) ∧ w.cell? ⟨b, off + i, none⟩ = some (.slice a' (gX l i).rs.length c') ∧ (V.getD i []).length = (gX l i).rs.length ∧ IsInts w a' (V.getD i []) ∧ (∀ ad, a' = some ad → lo ≤ ad.block) ∧ (a' = none → c' = 0)
/-- Rows of locks, one for each transaction. -/
def lkX (x : TxA) : List (Int × Bool) := lkTo x.rs (keysOf x.ss) 8
def IsLR (lo : Nat) (w : World) (a : Option Addr) (l : List TxA) : Prop :=
  ∀ i, i < l.length → ∃ b off a' c', a = some ⟨b, off, none⟩ ∧ (lo ≤ b ∧ b < w.heap.size) ∧ w.cell? ⟨b, off + i, none⟩ = some (.slice a' (lkX (gX l i)).length c') ∧ IsLks w a' (lkX (gX l i)) ∧ (∀ ad, a' = some ad → lo ≤ ad.block)
theorem IsBR.below {lo : Nat} {w w' : World} {a : Option Addr} {n sh : Nat} {F : Nat → Nat → Bool} (h : IsBR lo w a n sh F) (hb : Below w.heap.size w w') : IsBR lo w' a n sh F := fun i hi => by
  obtain ⟨b, off, b', off', c', e, h1, h2, h3, h4⟩ := h i hi
  exact ⟨b, off, b', off', c', e, ⟨h1.1, Nat.lt_of_lt_of_le h1.2 hb.size⟩, ⟨h2.1, Nat.lt_of_lt_of_le h2.2 hb.size⟩, ext_cell hb h3, fun k hk => ext_cell hb (h4 k hk)⟩
theorem IsIR.below {lo : Nat} {w w' : World} {a : Option Addr} {l : List TxA} {V : List (List Int)} (h : IsIR lo w a l V) (hb : Below w.heap.size w w') : IsIR lo w' a l V := fun i hi => by
  obtain ⟨b, off, a', c', e, h1, h2, h3, h4, h5⟩ := h i hi
  exact ⟨b, off, a', c', e, ⟨h1.1, Nat.lt_of_lt_of_le h1.2 hb.size⟩, ext_cell hb h2, h3, h4.below hb, h5⟩
theorem IsLR.below {lo : Nat} {w w' : World} {a : Option Addr} {l : List TxA} (h : IsLR lo w a l) (hb : Below w.heap.size w w') : IsLR lo w' a l := fun i hi => by
  obtain ⟨b, off, a', c', e, h1, h2, h3, h4⟩ := h i hi
  exact ⟨b, off, a', c', e, ⟨h1.1, Nat.lt_of_lt_of_le h1.2 hb.size⟩, ext_cell hb h2, h3.below hb, h4⟩
theorem IsBR.low {lo lo' : Nat} {w : World} {a : Option Addr} {n sh : Nat} {F : Nat → Nat → Bool} (h : IsBR lo w a n sh F) (hl : lo' ≤ lo) : IsBR lo' w a n sh F := fun i hi => by
  obtain ⟨b, off, b', off', c', e, h1, h2, h3, h4⟩ := h i hi
  exact ⟨b, off, b', off', c', e, ⟨Nat.le_trans hl h1.1, h1.2⟩, ⟨Nat.le_trans hl h2.1, h2.2⟩, h3, h4⟩

/-- Where a hall's lists lie. -/
structure HA where
  p : Nat
  la : Option Addr
  sa : Option Addr
  ra : Option Addr
  wa : Option Addr
  va : Option Addr
  pa : Option Addr
  qa : Option Addr
  ka : Option Addr
  lc : Nat
  sc : Nat
  rc : Nat
  wc : Nat
  vc : Nat
  pc : Nat
  qc : Nat
  kc : Nat
/-- A hall that can be read, whose lists are as long as they must be. -/
structure Hall (w : World) (h sh : Nat) (l : List TxA) (S : SA) (A : HA) : Prop where
  h0 : w.cell? ⟨h, 0, none⟩ = some (.pointer (some ⟨A.p, 0, none⟩))
  h1 : w.cell? ⟨h, 1, none⟩ = some (.slice A.sa 8 A.sc)
  h2 : w.cell? ⟨h, 2, none⟩ = some (.slice A.ra l.length A.rc)
  h3 : w.cell? ⟨h, 3, none⟩ = some (.slice A.wa l.length A.wc)
  h4 : w.cell? ⟨h, 4, none⟩ = some (.slice A.va l.length A.vc)
  h5 : w.cell? ⟨h, 5, none⟩ = some (.slice A.pa l.length A.pc)
  h6 : w.cell? ⟨h, 6, none⟩ = some (.slice A.qa l.length A.qc)
  h7 : w.cell? ⟨h, 7, none⟩ = some (.slice A.ka l.length A.kc)
  p0 : w.cell? ⟨A.p, 0, none⟩ = some (.int .i64 sh)
  p1 : w.cell? ⟨A.p, 1, none⟩ = some (.slice A.la l.length A.lc)
  tx : IsTxs w A.la l
  s8 : S.st.length = 8
  st : IsInts w A.sa S.st
  rd : IsBR 0 w A.ra l.length sh (at2 S.rd)
  wr : IsBR 0 w A.wa l.length sh (at2 S.wr)
  vs : IsIR 0 w A.va l S.vs
  pt : IsBR (h + 1) w A.pa l.length sh (fun n k => ptB sh (gX l n) k)
  ac : IsBR (h + 1) w A.qa l.length sh (fun n k => acB sh (gX l n) k)
  lk : IsLR (h + 1) w A.ka l
  s0 : 0 < sh
  s4 : sh ≤ 4
  l8 : l.length ≤ 8
theorem Hall.below {w w' : World} {h sh : Nat} {l : List TxA} {S : SA} {A : HA} (H : Hall w h sh l S A) (hb : Below w.heap.size w w') : Hall w' h sh l S A :=
  ⟨ext_cell hb H.h0, ext_cell hb H.h1, ext_cell hb H.h2, ext_cell hb H.h3, ext_cell hb H.h4, ext_cell hb H.h5, ext_cell hb H.h6, ext_cell hb H.h7, ext_cell hb H.p0, ext_cell hb H.p1, H.tx.below hb, H.s8, H.st.below hb, H.rd.below hb, H.wr.below hb, H.vs.below hb, H.pt.below hb, H.ac.below hb, H.lk.below hb, H.s0, H.s4, H.l8⟩
/-- What a walk wants of a row of truths at one place. -/
theorem br_at {lo : Nat} {w : World} {h j : Nat} {a : Option Addr} {N c sh : Nat} {F : Nat → Nat → Bool} (hc : w.cell? ⟨h, j, none⟩ = some (.slice a N c)) (H : IsBR lo w a N sh F) {n k : Nat} (hn : n < N) (hk : k < sh) :
    ∃ b off b' off' c', w.cell? ⟨h, j, none⟩ = some (.slice (some ⟨b, off, none⟩) N c) ∧ w.cell? ⟨b, off + n, none⟩ = some (.slice (some ⟨b', off', none⟩) sh c') ∧ w.cell? ⟨b', off' + k, none⟩ = some (.bool (F n k)) := by
  obtain ⟨b, off, b', off', c', e, _, _, h3, h4⟩ := H n hn
  exact ⟨b, off, b', off', c', by rw [hc, e], h3, h4 k hk⟩
theorem br_row {lo : Nat} {w : World} {h j : Nat} {a : Option Addr} {N c sh : Nat} {F : Nat → Nat → Bool} (hc : w.cell? ⟨h, j, none⟩ = some (.slice a N c)) (H : IsBR lo w a N sh F) {n : Nat} (hn : n < N) :
    ∃ b off b' off' c', w.cell? ⟨h, j, none⟩ = some (.slice (some ⟨b, off, none⟩) N c) ∧ w.cell? ⟨b, off + n, none⟩ = some (.slice (some ⟨b', off', none⟩) sh c') ∧ ∀ k, k < sh → w.cell? ⟨b', off' + k, none⟩ = some (.bool (F n k)) := by
  obtain ⟨b, off, b', off', c', e, _, _, h3, h4⟩ := H n hn
  exact ⟨b, off, b', off', c', by rw [hc, e], h3, h4⟩

variable {w : World} {h sh : Nat} {l : List TxA} {S : SA} {A : HA}

set_option maxRecDepth 100000 in
set_option maxHeartbeats 1000000 in
theorem gone_any (H : Hall w h sh l S A) {n k : Nat} (hn : n < l.length) (hk : k < sh) :
    Calls Tryz.prog 50 #[.pointer (some ⟨h, 0, none⟩), .int .i64 n, .int .i64 k] w fun e w' => e = .returned (.bool (goneB sh l S n k)) ∧ w' = w := by
  obtain ⟨b1, o1, b1', o1', c1, x1, y1, z1⟩ := br_at H.h5 H.pt hn hk
  obtain ⟨b2, o2, b2', o2', c2, x2, y2, z2⟩ := br_at H.h6 H.ac hn hk
  obtain ⟨b3, o3, b3', o3', c3, x3, y3, z3⟩ := br_at H.h3 H.wr hn hk
  obtain ⟨b4, o4, b4', o4', c4, x4, y4, z4⟩ := br_at H.h2 H.rd hn hk
  have hl8 := H.l8
  have hs4 := H.s4
  unfold goneB
  clear H
  generalize ptB sh (gX l n) k = P at *
  generalize acB sh (gX l n) k = Q at *
  generalize at2 S.wr n k = X at *
  generalize at2 S.rd n k = Y at *
  go_enter Tryz.func50, Tryz.ntmps50
  cases P
  · go_wp2
    go_ret
    exact ⟨rfl, rfl⟩
  · cases Q
    · go_wp2
      go_ret
      exact ⟨rfl, rfl⟩
    · go_wp2
      go_ret
      exact ⟨rfl, rfl⟩

theorem all_to (f : Nat → Bool) (j : Nat) : (List.range (j + 1)).all f = ((List.range j).all f && f j) := by
  rw [List.range_succ, List.all_append]; simp
theorem all_stop {f : Nat → Bool} {j n : Nat} (hj : j < n) (h : f j = false) : (List.range n).all f = false := by
  rw [List.all_eq_false]
  exact ⟨j, List.mem_range.2 hj, by simp [h]⟩
theorem any_to (f : Nat → Bool) (j : Nat) : (List.range (j + 1)).any f = ((List.range j).any f || f j) := by
  rw [List.range_succ, List.any_append]; simp
theorem any_stop {f : Nat → Bool} {j n : Nat} (hj : j < n) (h : f j = true) : (List.range n).any f = true := by
  rw [List.any_eq_true]
  exact ⟨j, List.mem_range.2 hj, h⟩

set_option maxRecDepth 100000 in
set_option maxHeartbeats 1000000 in
theorem readAll_any (H : Hall w h sh l S A) {n : Nat} (hn : n < l.length) :
    Calls Tryz.prog 132 #[.pointer (some ⟨h, 0, none⟩), .int .i64 n] w fun e w' => e = .returned (.bool (allRd sh l S n)) ∧ w' = w := by
  obtain ⟨b1, o1, b1', o1', c1, x1, y1, z1⟩ := br_row H.h5 H.pt hn
  obtain ⟨b4, o4, b4', o4', c4, x4, y4, z4⟩ := br_row H.h2 H.rd hn
  have hl8 := H.l8
  have hs4 := H.s4
  have Z1 : Hid (∀ k, k < sh → w.cell? ⟨b1', o1' + k, none⟩ = some (.bool (ptB sh (gX l n) k))) := z1
  have Z4 : Hid (∀ k, k < sh → w.cell? ⟨b4', o4' + k, none⟩ = some (.bool (at2 S.rd n k))) := z4
  clear H z1 z4
  go_enter Tryz.func132, Tryz.ntmps132
  go_wp2
  go_loop [5, 6, 15] (fun _ _ i => ∃ k : Nat, k ≤ sh ∧ i = .int .i64 k ∧ Hid ((List.range k).all (fun k => !ptB sh (gX l n) k || at2 S.rd n k) = true)) (fun _ _ i => sh - (intOf i).toNat)
  case atStart => exact ⟨0, Nat.zero_le _, rfl, rfl⟩
  case round =>
    obtain ⟨k, hk, rfl, hall⟩ := hrel
    by_cases hlt : k < sh
    · have d1 := Z1.out k hlt
      have d4 := Z4.out k hlt
      have hstep : Hid ((List.range (k + 1)).all (fun k => !ptB sh (gX l n) k || at2 S.rd n k) = (!ptB sh (gX l n) k || at2 S.rd n k)) := by
        show _ = _
        rw [all_to, hall.out, Bool.true_and]
      have hstop : Hid ((!ptB sh (gX l n) k || at2 S.rd n k) = false → allRd sh l S n = false) := fun e => all_stop hlt e
      clear hall
      generalize ptB sh (gX l n) k = P at *
      generalize at2 S.rd n k = Y at *
      cases P
      · go_wp2
        go_round
        case rel => exact ⟨k + 1, by omega, by go_num, hstep.out⟩
        case measure => simp [intOf]; omega
      · cases Y
        · have hF : Hid (allRd sh l S n = false) := hstop.out rfl
          clear hstop hstep
          go_wp2
          go_ret
          exact ⟨by rw [hF.out]; rfl, rfl⟩
        · go_wp2
          go_round
          case rel => exact ⟨k + 1, by omega, by go_num, hstep.out⟩
          case measure => simp [intOf]; omega
    · have hT : Hid (allRd sh l S n = true) := by
        have : k = sh := by omega
        subst this
        exact hall.out
      clear hall
      go_wp2
      go_ret
      exact ⟨by rw [hT.out]; rfl, rfl⟩
end Go.Proofs.YtebjkmknhpgemaaGreat
