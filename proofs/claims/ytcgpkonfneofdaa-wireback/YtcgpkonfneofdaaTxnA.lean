/-
  Lists of ints gone through by the transactions' calls: ErrRange and ErrForm of keys, where a number stands, whether two lists are the same.
  Conditions: the lists can be read.
-/
import Derived.Test.YtcgpkonfneofdaaFrame
import Derived.WalkKit
import Derived.WalkSpells
import Derived.WalkLawsBesides
import Derived.Defers
import Derived.Recover
import Derived.ProofKit
import Derived.Deep.RegionHeld
import Derived.Deep.RegionHeld3
import Derived.BigQuiet
namespace Go.Proofs.Ytcgpkonfneofdaa
open Go.RowKit

set_option maxRecDepth 100000 in
/-- What is left behind k elements. -/
theorem drop_get {α : Type} (l : List α) (k : Nat) (d : α) (h : k < l.length) : l.drop k = l.getD k d :: l.drop (k + 1) := by
  rw [List.drop_eq_getElem_cons h]
  simp [List.getD, h]

/-- ErrRange, if a key is none. -/
def rangeE : List Int → Int
  | [] => 0
  | z :: t => if z < 0 ∨ 8 ≤ z then 3 else rangeE t

/-- ErrForm, if they do not rise. -/
def riseE : List Int → Int
  | [] => 0
  | [_] => 0
  | x :: y :: t => if y ≤ x then 1 else riseE (y :: t)

/-- The first error of some. -/
def firstNZ : List Int → Int
  | [] => 0
  | e :: l => if e = 0 then firstNZ l else e

set_option maxRecDepth 100000 in
theorem rangeE_step (l : List Int) (k : Nat) (h : k < l.length) : rangeE (l.drop k) = if l.getD k 0 < 0 ∨ 8 ≤ l.getD k 0 then 3 else rangeE (l.drop (k + 1)) := by
  rw [drop_get l k 0 h]; rfl

set_option maxRecDepth 100000 in
theorem riseE_step (l : List Int) (k : Nat) (h : k + 1 < l.length) : riseE (l.drop k) = if l.getD (k + 1) 0 ≤ l.getD k 0 then 1 else riseE (l.drop (k + 1)) := by
  rw [drop_get l k 0 (by omega), drop_get l (k + 1) 0 h]; rfl

set_option maxRecDepth 100000 in
theorem riseE_end (l : List Int) (k : Nat) (h : l.length ≤ k + 1) : riseE (l.drop k) = 0 := by
  have hl : (l.drop k).length ≤ 1 := by rw [List.length_drop]; omega
  match hd : l.drop k, hl with
  | [], _ => rfl
  | [_], _ => rfl

/-- Where a number stands first, counted from i on; -1, if it does not. -/
def idxE (v : Int) : List Int → Int → Int
  | [], _ => -1
  | z :: t, i => if v = z then i else idxE v t (i + 1)

set_option maxRecDepth 100000 in
theorem idxE_step (v : Int) (l : List Int) (k : Nat) (h : k < l.length) : idxE v (l.drop k) k = if v = l.getD k 0 then (k : Int) else idxE v (l.drop (k + 1)) (k + 1 : Nat) := by
  rw [drop_get l k 0 h]; rfl

set_option maxRecDepth 100000 in
theorem idxE_mem (v : Int) : ∀ (l : List Int) (i : Int), 0 ≤ i → decide (0 ≤ idxE v l i) = decide (v ∈ l)
  | [], i, _ => by simp [idxE]
  | z :: t, i, h => by
    unfold idxE
    by_cases hv : v = z
    · rw [if_pos hv]; simp [hv, h]
    · rw [if_neg hv, idxE_mem v t (i + 1) (by omega)]; simp [hv]

set_option maxRecDepth 100000 in
theorem mem_step (v : Int) (l : List Int) (k : Nat) (h : k < l.length) : (v ∈ l.drop k) ↔ (l.getD k 0 = v ∨ v ∈ l.drop (k + 1)) := by
  rw [drop_get l k 0 h, List.mem_cons]
  exact or_congr_left eq_comm

set_option maxRecDepth 100000 in
theorem same_step (l m : List Int) (k : Nat) (h : k < l.length) (h' : k < m.length) : (l.drop k = m.drop k) ↔ (l.getD k 0 = m.getD k 0 ∧ l.drop (k + 1) = m.drop (k + 1)) := by
  rw [drop_get l k 0 h, drop_get m k 0 h', List.cons.injEq]

set_option maxRecDepth 100000 in
theorem rangeError_any (zs : List Int) (a : Option Addr) (cap : Nat) (w : World) (hl : zs.length ≤ maxLen) (hz : IsInts w a zs) :
    Calls Try.prog 99 #[.slice a zs.length cap] w fun e w' => e = .returned (.int .i64 (rangeE zs)) ∧ w' = w := by
  unfold maxLen at hl
  go_enter Try.func99, Try.ntmps99
  go_wp2
  go_loop [4, 7] (fun _ i => ∃ k : Nat, k ≤ zs.length ∧ i = .int .i64 k ∧ Hid (rangeE zs = rangeE (zs.drop k))) (fun _ i => zs.length - (intOf i).toNat)
  case atStart => exact ⟨0, Nat.zero_le _, rfl, rfl⟩
  case round =>
    obtain ⟨k, hk, rfl, hno⟩ := hrel
    by_cases hlt : k < zs.length
    · obtain ⟨b, off, rfl, hb, hc⟩ := hz k hlt
      have hs : Hid (rangeE zs = if zs.getD k 0 < 0 ∨ 8 ≤ zs.getD k 0 then 3 else rangeE (zs.drop (k + 1))) := hno.out.trans (rangeE_step zs k hlt)
      generalize zs.getD k 0 = z at *
      clear hno hz
      by_cases h1 : z < 0
      · have H' : Hid (rangeE zs = 3) := hs.out.trans (if_pos (by omega))
        clear hs
        go_wp2
        go_ret
        exact ⟨by rw [H'.out]; rfl, rfl⟩
      · by_cases h2 : 8 ≤ z
        · have H' : Hid (rangeE zs = 3) := hs.out.trans (if_pos (by omega))
          clear hs
          go_wp2
          go_ret
          exact ⟨by rw [H'.out]; rfl, rfl⟩
        · have H' : Hid (rangeE zs = rangeE (zs.drop (k + 1))) := hs.out.trans (if_neg (by omega))
          clear hs
          go_wp2
          go_round
          case rel => exact ⟨k + 1, by omega, by go_num, H'⟩
          case measure => simp [intOf]; omega
    · have H' : Hid (rangeE zs = 0) := by
        have h0 := hno.out
        rw [List.drop_of_length_le (by omega)] at h0
        exact h0
      clear hno hz
      go_wp2
      go_ret
      exact ⟨by rw [H'.out]; rfl, rfl⟩

set_option maxRecDepth 100000 in
theorem riseError_any (zs : List Int) (a : Option Addr) (cap : Nat) (w : World) (hl : zs.length ≤ maxLen) (hz : IsInts w a zs) :
    Calls Try.prog 100 #[.slice a zs.length cap] w fun e w' => e = .returned (.int .i64 (riseE zs)) ∧ Below w.heap.size w w' := by
  unfold maxLen at hl
  go_enter Try.func100, Try.ntmps100
  go_wp2
  go_loopw [3] (fun i wr => ∃ k : Nat, k ≤ zs.length ∧ i = .int .i64 (k + 1 : Nat) ∧ Hid (riseE zs = riseE (zs.drop k)) ∧ Below w.heap.size w wr) (fun i _ => zs.length + 1 - (intOf i).toNat)
  case atStart => exact ⟨0, Nat.zero_le _, rfl, rfl, Below.refl _ _⟩
  case round =>
    obtain ⟨k, hk, rfl, hno, hnx⟩ := hrel
    by_cases hlt : k + 1 < zs.length
    · obtain ⟨b, off, rfl, hb, hc⟩ := hz (k + 1) hlt
      obtain ⟨b', off', hbo, hb', hc'⟩ := hz k (by omega)
      simp only [Option.some.injEq, Addr.mk.injEq, and_true] at hbo
      obtain ⟨rfl, rfl⟩ := hbo
      have hc := (hnx.cell (p := ⟨b, off + (k + 1), none⟩) hb).trans hc
      have hc' := (hnx.cell (p := ⟨b, off + k, none⟩) hb).trans hc'
      have HX : Hid (Below w.heap.size w wr) := hnx
      clear hnx
      have hs : Hid (riseE zs = if zs.getD (k + 1) 0 ≤ zs.getD k 0 then 1 else riseE (zs.drop (k + 1))) := hno.out.trans (riseE_step zs k hlt)
      generalize zs.getD (k + 1) 0 = y at *
      generalize zs.getD k 0 = x at *
      clear hno hz
      have i1 : (0 : Int) ≤ (k : Int) + 1 := by omega
      have i2 : ((k : Int) + 1) < (zs.length : Int) := by omega
      by_cases hyx : y ≤ x
      · have H' : Hid (riseE zs = 1) := hs.out.trans (if_pos hyx)
        clear hs
        go_wp2_with fail
        go_quiet (fail)
        go_wp2
        go_ret
        exact ⟨by rw [H'.out]; rfl, below_drewN HX.out _⟩
      · have H' : Hid (riseE zs = riseE (zs.drop (k + 1))) := hs.out.trans (if_neg hyx)
        clear hs
        go_wp2_with fail
        go_quiet (fail)
        go_wp2
        go_roundw
        case rel => exact ⟨k + 1, by omega, by go_num, H', below_drewN HX.out _⟩
        case measure => simp [intOf]; omega
    · have H' : Hid (riseE zs = 0) := hno.out.trans (riseE_end zs k (by omega))
      clear hno hz
      go_wp2
      go_ret
      exact ⟨by rw [H'.out]; rfl, hnx⟩

set_option maxRecDepth 100000 in
theorem sameInts_any (zs ys : List Int) (a a' : Option Addr) (cap cap' : Nat) (w : World) (hl : zs.length ≤ maxLen) (hz : IsInts w a zs) (hy : IsInts w a' ys) :
    Calls Try.prog 12 #[.slice a zs.length cap, .slice a' ys.length cap'] w fun e w' => e = .returned (.bool (decide (zs = ys))) ∧ Below w.heap.size w w' := by
  unfold maxLen at hl
  by_cases hlen : zs.length = ys.length
  · have hbl : ((zs.length : Int) != (ys.length : Int)) = false := by simp [hlen]
    have HL : Hid (zs.length = ys.length) := hlen
    clear hlen
    go_enter Try.func12, Try.ntmps12
    go_wp2
    go_loopw [5] (fun i wr => ∃ k : Nat, k ≤ zs.length ∧ i = .int .i64 k ∧ Hid (zs = ys ↔ zs.drop k = ys.drop k) ∧ Below w.heap.size w wr) (fun i _ => zs.length - (intOf i).toNat)
    case atStart => exact ⟨0, Nat.zero_le _, rfl, Iff.rfl, Below.refl _ _⟩
    case round =>
      obtain ⟨k, hk, rfl, hno, hnx⟩ := hrel
      by_cases hlt : k < zs.length
      · have hlt' : k < ys.length := by have := HL.out; omega
        obtain ⟨b, off, rfl, hb, hc⟩ := hz k hlt
        obtain ⟨b', off', rfl, hb', hc'⟩ := hy k hlt'
        have hs : Hid (zs = ys ↔ (zs.getD k 0 = ys.getD k 0 ∧ zs.drop (k + 1) = ys.drop (k + 1))) := hno.out.trans (same_step zs ys k hlt hlt')
        have hc := (hnx.cell (p := ⟨b, off + k, none⟩) hb).trans hc
        have hc' := (hnx.cell (p := ⟨b', off' + k, none⟩) hb').trans hc'
        have HX : Hid (Below w.heap.size w wr) := hnx
        generalize zs.getD k 0 = x at *
        generalize ys.getD k 0 = y at *
        clear hno hz hy hnx
        have i1 : (0 : Int) ≤ (k : Int) := by omega
        have i2 : (k : Int) < (zs.length : Int) := by omega
        have i3 : (k : Int) < (ys.length : Int) := by omega
        by_cases h1 : x = y
        · have H' : Hid (zs = ys ↔ zs.drop (k + 1) = ys.drop (k + 1)) := hs.out.trans (by simp [h1])
          have h2 : (x != y) = false := by simpa using h1
          clear hs h1
          go_wp2_with fail
          go_quiet (fail)
          go_wp2
          go_roundw
          case rel => exact ⟨k + 1, by omega, by go_num, H', below_drewN HX.out _⟩
          case measure => simp [intOf]; omega
        · have H' : Hid (¬ zs = ys) := by
            intro e
            exact h1 (hs.out.1 e).1
          have h2 : (x != y) = true := by simpa using h1
          clear hs h1
          go_wp2_with fail
          go_quiet (fail)
          go_wp2
          go_ret
          exact ⟨by rw [decide_eq_false H'.out]; rfl, below_drewN HX.out _⟩
      · have H' : Hid (zs = ys) := by
          refine hno.out.2 ?_
          have := HL.out
          rw [List.drop_of_length_le (by omega), List.drop_of_length_le (by omega)]
        clear hno hz hy
        go_wp2
        go_ret
        exact ⟨by rw [decide_eq_true H'.out]; rfl, hnx⟩
  · have H' : Hid (¬ zs = ys) := fun e => hlen (by rw [e])
    have hbl : ((zs.length : Int) != (ys.length : Int)) = true := by simp; omega
    clear hlen hz hy
    go_enter Try.func12, Try.ntmps12
    go_wp2
    go_ret
    exact ⟨by rw [decide_eq_false H'.out]; rfl, Below.refl _ _⟩
end Go.Proofs.Ytcgpkonfneofdaa
