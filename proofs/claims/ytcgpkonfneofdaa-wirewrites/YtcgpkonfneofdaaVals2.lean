/-
  What vals.Value and the document's ValueOf answer, and that the first look of the statements on values (valsBegun) finds what it must.
  Conditions: the list of what was read lies in old memory.
-/
import Derived.Test.YtcgpkonfneofdaaVals1
import Derived.WalkKit
import Derived.WalkSpells
import Derived.WalkLawsBesides
import Derived.Defers
import Derived.Recover
import Derived.ProofKit
import Derived.Laws.Pointers
import Derived.Deep.RegionHeld3
import Derived.Deep.QuietTactic
import Derived.BigQuiet
import Derived.Maps.OwnSet
namespace Go.Proofs.Ytcgpkonfneofdaa
open Go.RowKit

/-- A list of ints that can be read: nil, or so many cells of an old block. -/
def IsInts (w : World) (a : Option Addr) (zs : List Int) : Prop :=
  ∀ i, i < zs.length → ∃ b off, a = some ⟨b, off, none⟩ ∧ b < w.heap.size ∧ w.cell? ⟨b, off + i, none⟩ = some (.int .i64 (zs.getD i 0))

theorem IsInts.below {w w' : World} {a : Option Addr} {zs : List Int} (h : IsInts w a zs) (hb : Below w.heap.size w w') : IsInts w' a zs := by
  intro i hi
  obtain ⟨b, off, ha, hlt, hc⟩ := h i hi
  exact ⟨b, off, ha, Nat.lt_of_lt_of_le hlt hb.size, by rw [hb.cell (p := ⟨b, off + i, none⟩) hlt]; exact hc⟩

/-- What the document says of a value: nothing, if the operand is not right. -/
def valV (k n : Int) (zs : List Int) : Int := if chkV k n zs.length = 0 then (if k = 1 then n else zs.getD n.toNat 0) else 0

theorem chk_two {k n : Int} {l : Int} (h : chkV k n l = 0) (hk : ¬ k = 1) : k = 2 ∧ 0 ≤ n ∧ n < l := by
  unfold chkV at h
  by_cases c1 : l < 0 ∨ 4 < l
  · rw [if_pos c1] at h; omega
  · rw [if_neg c1, if_neg hk] at h
    by_cases c2 : k = 2
    · rw [if_neg (by omega)] at h
      by_cases c3 : n < 0 ∨ l ≤ n
      · rw [if_pos c3] at h; omega
      · omega
    · rw [if_pos c2] at h; omega

theorem value_any (k n : Int) (zs : List Int) (a : Option Addr) (cap : Nat) (w : World) (hl : zs.length ≤ maxLen) (hz : IsInts w a zs) :
    Calls Try.prog 128 #[.agg #[.int .i64 k, .int .i64 n], .slice a zs.length cap] w fun e' w' => e' = .returned (.tuple #[.int .i64 (valV k n zs), .int .i64 (chkV k n zs.length)]) ∧ w' = (w.alloc (.cells #[.int .i64 k, .int .i64 n] 45)).alloc (.cells #[.int .i64 k, .int .i64 n] 45) := by
  have hw : (Lit.int .i64 (zs.length : Int)).wf = true := WalkArith.wf_i64 (by unfold maxLen at hl; omega)
  by_cases h0 : chkV k n zs.length = 0
  · have hb : (chkV k n zs.length != 0) = false := by simp [h0]
    by_cases hk : k = 1
    · subst hk
      have hv : valV 1 n zs = n := by unfold valV; rw [if_pos h0, if_pos rfl]
      rw [hv]
      have H0 : Hid (chkV 1 n zs.length = 0) := h0
      clear hv hz h0
      go_enter Try.func128, Try.ntmps128
      go_wp2_with fail
      refine (check_any _ _ _ _ hw).mono ?_
      rintro e w1 ⟨rfl, rfl⟩
      go_wp2
      go_ret2
      exact ⟨by rw [H0.out]; rfl, rfl⟩
    · obtain ⟨rfl, hn0, hn1⟩ := chk_two h0 hk
      obtain ⟨m, rfl⟩ := Int.eq_ofNat_of_zero_le hn0
      have hv : valV 2 (m : Int) zs = zs.getD m 0 := by unfold valV; rw [if_pos h0, if_neg hk, Int.toNat_natCast]
      rw [hv]
      obtain ⟨b, off, rfl, hlt, hc⟩ := hz m (by omega)
      have hc2 : ∀ o1 o2, ((w.alloc o1).alloc o2).cell? ⟨b, off + m, none⟩ = some (.int .i64 (zs.getD m 0)) := by
        intro o1 o2
        rw [World.cell?_alloc_lt _ _ _ (by simp; omega), World.cell?_alloc_lt _ _ _ (by simpa using hlt)]; exact hc
      generalize zs.getD m 0 = z at *
      have H0 : Hid (chkV 2 (m : Int) zs.length = 0) := h0
      clear hv hz h0 hc
      go_enter Try.func128, Try.ntmps128
      go_wp2_with fail
      refine (check_any _ _ _ _ hw).mono ?_
      rintro e w1 ⟨rfl, rfl⟩
      go_wp2
      go_ret2
      exact ⟨by rw [H0.out]; rfl, rfl⟩
  · have hb : (chkV k n zs.length != 0) = true := by simpa using h0
    have hv : valV k n zs = 0 := by unfold valV; rw [if_neg h0]
    rw [hv]
    clear hv hz h0
    go_enter Try.func128, Try.ntmps128
    go_wp2_with fail
    refine (check_any _ _ _ _ hw).mono ?_
    rintro e w1 ⟨rfl, rfl⟩
    go_wp2
    go_ret2
    exact ⟨rfl, rfl⟩

theorem valueOf_any (k n : Int) (zs : List Int) (a : Option Addr) (cap : Nat) (w : World) (hz : IsInts w a zs) (h0 : chkV k n zs.length = 0) :
    Calls Try.prog 121 #[.agg #[.int .i64 k, .int .i64 n], .slice a zs.length cap] w fun e' w' => e' = .returned (.int .i64 (valV k n zs)) ∧ w' = w.alloc (.cells #[.int .i64 k, .int .i64 n] 45) := by
  by_cases hk : k = 1
  · subst hk
    have hv : valV 1 n zs = n := by unfold valV; rw [if_pos h0, if_pos rfl]
    rw [hv]
    clear hv hz h0
    go_enter Try.func121, Try.ntmps121
    go_wp2
    go_ret
    exact ⟨rfl, rfl⟩
  · obtain ⟨rfl, hn0, hn1⟩ := chk_two h0 hk
    obtain ⟨m, rfl⟩ := Int.eq_ofNat_of_zero_le hn0
    have hv : valV 2 (m : Int) zs = zs.getD m 0 := by unfold valV; rw [if_pos h0, if_neg hk, Int.toNat_natCast]
    rw [hv]
    obtain ⟨b, off, rfl, hlt, hc⟩ := hz m (by omega)
    have hc2 : ∀ o1, (w.alloc o1).cell? ⟨b, off + m, none⟩ = some (.int .i64 (zs.getD m 0)) := by
      intro o1
      rw [World.cell?_alloc_lt _ _ _ (by simpa using hlt)]; exact hc
    generalize zs.getD m 0 = z at *
    clear hv hz h0 hc
    go_enter Try.func121, Try.ntmps121
    go_wp2
    go_ret
    exact ⟨rfl, rfl⟩

theorem lawValue_any (n : Int) (w : World) : Calls Try.prog 72 #[.int .i64 n] w fun e' w' => e' = .returned (.agg #[.int .i64 2, .int .i64 n]) ∧ w' = w.alloc (.cells #[.int .i64 2, .int .i64 n] 45) := by
  go_enter Try.func72, Try.ntmps72
  go_wp2
  exact bodyPost_ret (v := .agg #[.int .i64 2, .int .i64 n]) (by simp [results, Try.results72, go_sem]) rfl ⟨rfl, rfl⟩

theorem lawNumber_any (n : Int) (w : World) : Calls Try.prog 71 #[.int .i64 n] w fun e' w' => e' = .returned (.agg #[.int .i64 1, .int .i64 n]) ∧ w' = w.alloc (.cells #[.int .i64 1, .int .i64 n] 45) := by
  go_enter Try.func71, Try.ntmps71
  go_wp2
  exact bodyPost_ret (v := .agg #[.int .i64 1, .int .i64 n]) (by simp [results, Try.results71, go_sem]) rfl ⟨rfl, rfl⟩

theorem isInts_two (w : World) (s : Nat) (x y : Int) (hs : s = w.heap.size) : IsInts (w.alloc (.cells #[.int .i64 x, .int .i64 y] 3)) (some ⟨s, 0, none⟩) [x, y] := by
  subst hs
  intro i hi
  refine ⟨w.heap.size, 0, rfl, by simp, ?_⟩
  match i, hi with
  | 0, _ => simp
  | 1, _ => simp

theorem wf_small (n : Int) (h : -1000 ≤ n ∧ n ≤ 1000) : (Lit.int .i64 n).wf = true := WalkArith.wf_i64 (by omega)

theorem grow_trans {a b c : World} (h : Below a.heap.size a b) (k : Below b.heap.size b c) : Below a.heap.size a c := h.trans (k.mono h.size)
theorem grow_alloc {a w : World} (h : Below a.heap.size a w) (o : Obj) : Below a.heap.size a (w.alloc o) := h.alloc h.size o
theorem grow_drew {a w : World} (h : Below a.heap.size a w) : Below a.heap.size a w.drew := h.drew
theorem grow_set {a w : World} (h : Below a.heap.size a w) {p : Addr} (hp : a.heap.size ≤ p.block) (u : Value) : Below a.heap.size a (w.setCell p u) := h.setCell hp u

end Go.Proofs.Ytcgpkonfneofdaa
