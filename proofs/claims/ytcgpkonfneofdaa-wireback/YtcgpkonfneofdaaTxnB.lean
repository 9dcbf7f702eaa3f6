/-
  What of a transaction is read: its reads, guards and sets; does it read or set a key; are there too many of them?
  Conditions: the transaction can be read.
-/
import Derived.Test.YtcgpkonfneofdaaTxnA
import Derived.WalkKit
import Derived.WalkSpells
import Derived.WalkLawsBesides
import Derived.Defers
import Derived.Recover
import Derived.ProofKit
import Derived.Deep.RegionHeld
import Derived.Deep.RegionHeld3
import Derived.BigQuiet
namespace Go.Proofs.Ytcgpkonfneofdaa
open Go.RowKit

/-- A guard, and a set, as numbers. -/
structure Gd where
  k : Int
  ak : Int
  an : Int
  bk : Int
  bn : Int
structure St where
  key : Int
  op : Int
  ak : Int
  an : Int
  bk : Int
  bn : Int
def g0 : Gd := ⟨0, 0, 0, 0, 0⟩
def s0 : St := ⟨0, 0, 0, 0, 0, 0⟩
def keysOf (ss : List St) : List Int := ss.map St.key

/-- A list of guards that can be read. -/
def IsGs (w : World) (a : Option Addr) (gs : List Gd) : Prop :=
  ∀ i, i < gs.length → ∃ b off, a = some ⟨b, off, none⟩ ∧ b < w.heap.size ∧ w.cell? ⟨b, off + i * 5, none⟩ = some (.int .i64 (gs.getD i g0).k) ∧ w.cell? ⟨b, off + i * 5 + 1, none⟩ = some (.int .i64 (gs.getD i g0).ak) ∧
    w.cell? ⟨b, off + i * 5 + 2, none⟩ = some (.int .i64 (gs.getD i g0).an) ∧ w.cell? ⟨b, off + i * 5 + 3, none⟩ = some (.int .i64 (gs.getD i g0).bk) ∧ w.cell? ⟨b, off + i * 5 + 4, none⟩ = some (.int .i64 (gs.getD i g0).bn)

/-- A list of sets that can be read. -/
def IsSs (w : World) (a : Option Addr) (ss : List St) : Prop :=
  ∀ i, i < ss.length → ∃ b off, a = some ⟨b, off, none⟩ ∧ b < w.heap.size ∧ w.cell? ⟨b, off + i * 6, none⟩ = some (.int .i64 (ss.getD i s0).key) ∧ w.cell? ⟨b, off + i * 6 + 1, none⟩ = some (.int .i64 (ss.getD i s0).op) ∧
    w.cell? ⟨b, off + i * 6 + 2, none⟩ = some (.int .i64 (ss.getD i s0).ak) ∧ w.cell? ⟨b, off + i * 6 + 3, none⟩ = some (.int .i64 (ss.getD i s0).an) ∧ w.cell? ⟨b, off + i * 6 + 4, none⟩ = some (.int .i64 (ss.getD i s0).bk) ∧ w.cell? ⟨b, off + i * 6 + 5, none⟩ = some (.int .i64 (ss.getD i s0).bn)

set_option maxRecDepth 100000 in
theorem IsGs.below {w w' : World} {a : Option Addr} {gs : List Gd} (h : IsGs w a gs) (hb : Below w.heap.size w w') : IsGs w' a gs := by
  intro i hi
  obtain ⟨b, off, ha, hlt, h0, h1, h2, h3, h4⟩ := h i hi
  refine ⟨b, off, ha, Nat.lt_of_lt_of_le hlt hb.size, ?_, ?_, ?_, ?_, ?_⟩ <;> (rw [hb.cell hlt]; assumption)

set_option maxRecDepth 100000 in
theorem IsSs.below {w w' : World} {a : Option Addr} {ss : List St} (h : IsSs w a ss) (hb : Below w.heap.size w w') : IsSs w' a ss := by
  intro i hi
  obtain ⟨b, off, ha, hlt, h0, h1, h2, h3, h4, h5⟩ := h i hi
  refine ⟨b, off, ha, Nat.lt_of_lt_of_le hlt hb.size, ?_, ?_, ?_, ?_, ?_, ?_⟩ <;> (rw [hb.cell hlt]; assumption)

/-- A transaction that can be read. -/
structure IsTx (w : World) (ra ga sa : Option Addr) (rs : List Int) (gs : List Gd) (ss : List St) : Prop where
  r : IsInts w ra rs
  g : IsGs w ga gs
  s : IsSs w sa ss
  lr : rs.length ≤ maxLen
  lg : gs.length ≤ maxLen
  ls : ss.length ≤ maxLen

set_option maxRecDepth 100000 in
theorem IsTx.below {w w' : World} {ra ga sa : Option Addr} {rs : List Int} {gs : List Gd} {ss : List St} (h : IsTx w ra ga sa rs gs ss) (hb : Below w.heap.size w w') : IsTx w' ra ga sa rs gs ss :=
  ⟨h.r.below hb, h.g.below hb, h.s.below hb, h.lr, h.lg, h.ls⟩

set_option maxRecDepth 100000 in
theorem keys_len (ss : List St) : (keysOf ss).length = ss.length := by simp [keysOf]
set_option maxRecDepth 100000 in
theorem keys_get (ss : List St) (k : Nat) (h : k < ss.length) : (keysOf ss).getD k 0 = (ss.getD k s0).key := by
  simp [keysOf, List.getD, h]

/-- ErrMany, if there are too many, or no set. -/
def manyE (r g s : Nat) : Int := if 4 < r ∨ 2 < g ∨ 3 < s ∨ s = 0 then 2 else 0

variable (ra ga sa : Option Addr) (rc gc sc : Nat) (rs : List Int) (gs : List Gd) (ss : List St)

set_option maxRecDepth 100000 in
theorem writes_any (key : Int) (w : World) (ht : IsTx w ra ga sa rs gs ss) :
    Calls Try.prog 39 #[.agg #[.slice ra rs.length rc, .slice ga gs.length gc, .slice sa ss.length sc], .int .i64 key] w fun e w' => e = .returned (.bool (decide (key ∈ keysOf ss))) ∧ w' = w.alloc (.cells #[.slice ra rs.length rc, .slice ga gs.length gc, .slice sa ss.length sc] 38) := by
  obtain ⟨_, _, hz, _, _, hl⟩ := ht
  unfold maxLen at hl
  have hkl := keys_len ss
  have HL : Hid ((keysOf ss).length = ss.length) := hkl
  clear hkl
  go_enter Try.func39, Try.ntmps39
  go_wp2
  go_loop [5] (fun i => ∃ k : Nat, k ≤ ss.length ∧ i = .int .i64 k ∧ Hid (key ∈ keysOf ss ↔ key ∈ (keysOf ss).drop k)) (fun i => ss.length - (intOf i).toNat)
  case atStart => exact ⟨0, Nat.zero_le _, rfl, Iff.rfl⟩
  case round =>
    obtain ⟨k, hk, rfl, hno⟩ := hrel
    by_cases hlt : k < ss.length
    · obtain ⟨b, off, rfl, hb, hc, _, _, _, _, _⟩ := hz k hlt
      have hs : Hid (key ∈ keysOf ss ↔ ((ss.getD k s0).key = key ∨ key ∈ (keysOf ss).drop (k + 1))) := by
        have := hno.out.trans (mem_step key (keysOf ss) k (by rw [HL.out]; exact hlt))
        rw [keys_get ss k hlt] at this
        exact this
      have hc := fun o => (World.cell?_alloc_lt (w := w) (o := o) (a := ⟨b, off + k * 6, none⟩) hb).trans hc
      generalize (ss.getD k s0).key = z at *
      clear hno hz
      by_cases h1 : z = key
      · have H' : Hid (key ∈ keysOf ss) := hs.out.2 (.inl h1)
        have h2 : (z == key) = true := by simpa using h1
        clear hs h1
        go_wp2
        go_ret
        exact ⟨by rw [decide_eq_true H'.out]; rfl, rfl⟩
      · have H' : Hid (key ∈ keysOf ss ↔ key ∈ (keysOf ss).drop (k + 1)) := hs.out.trans (by simp [h1])
        have h2 : (z == key) = false := by simpa using h1
        clear hs h1
        go_wp2
        go_round
        case rel => exact ⟨k + 1, by omega, by go_num, H'⟩
        case measure => simp [intOf]; omega
    · have H' : Hid (¬ key ∈ keysOf ss) := by
        intro h
        have h0 := hno.out.1 h
        rw [List.drop_of_length_le (by rw [HL.out]; omega)] at h0
        simp at h0
      clear hno hz
      go_wp2
      go_ret
      exact ⟨by rw [decide_eq_false H'.out]; rfl, rfl⟩

set_option maxRecDepth 100000 in
theorem manyError_any (w : World) (ht : IsTx w ra ga sa rs gs ss) :
    Calls Try.prog 97 #[.agg #[.slice ra rs.length rc, .slice ga gs.length gc, .slice sa ss.length sc]] w fun e w' => e = .returned (.int .i64 (manyE rs.length gs.length ss.length)) ∧ w' = w.alloc (.cells #[.slice ra rs.length rc, .slice ga gs.length gc, .slice sa ss.length sc] 38) := by
  obtain ⟨_, _, _, hlr, hlg, hls⟩ := ht
  unfold maxLen at hlr hlg hls
  generalize rs.length = r at *
  generalize gs.length = g at *
  generalize ss.length = s at *
  by_cases h1 : 4 < r
  · have H : Hid (manyE r g s = 2) := if_pos (by omega)
    have b1 : (4 : Int) < (r : Int) := by omega
    go_enter Try.func97, Try.ntmps97
    go_wp2
    go_ret
    exact ⟨by rw [H.out]; rfl, rfl⟩
  · by_cases h2 : 2 < g
    · have H : Hid (manyE r g s = 2) := if_pos (by omega)
      have b1 : ¬ (4 : Int) < (r : Int) := by omega
      have b2 : (2 : Int) < (g : Int) := by omega
      go_enter Try.func97, Try.ntmps97
      go_wp2
      go_ret
      exact ⟨by rw [H.out]; rfl, rfl⟩
    · by_cases h3 : 3 < s
      · have H : Hid (manyE r g s = 2) := if_pos (by omega)
        have b1 : ¬ (4 : Int) < (r : Int) := by omega
        have b2 : ¬ (2 : Int) < (g : Int) := by omega
        have b3 : (3 : Int) < (s : Int) := by omega
        go_enter Try.func97, Try.ntmps97
        go_wp2
        go_ret
        exact ⟨by rw [H.out]; rfl, rfl⟩
      · by_cases h4 : s = 0
        · have H : Hid (manyE r g s = 2) := if_pos (by omega)
          subst h4
          have b1 : ¬ (4 : Int) < (r : Int) := by omega
          have b2 : ¬ (2 : Int) < (g : Int) := by omega
          go_enter Try.func97, Try.ntmps97
          go_wp2
          go_ret
          exact ⟨by rw [H.out]; rfl, rfl⟩
        · have H : Hid (manyE r g s = 0) := if_neg (by omega)
          have b1 : ¬ (4 : Int) < (r : Int) := by omega
          have b2 : ¬ (2 : Int) < (g : Int) := by omega
          have b3 : ¬ (3 : Int) < (s : Int) := by omega
          have b4 : ((s : Int) == 0) = false := by simp; omega
          go_enter Try.func97, Try.ntmps97
          go_wp2
          go_ret
          exact ⟨by rw [H.out]; rfl, rfl⟩
end Go.Proofs.Ytcgpkonfneofdaa
