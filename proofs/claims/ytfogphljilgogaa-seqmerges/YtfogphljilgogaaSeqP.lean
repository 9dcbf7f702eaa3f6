/-
  The document's own merging of batches: where there is an error.
  Conditions: the batches can be read.
-/
import Derived.Test.YtfogphljilgogaaSeqI
import Derived.Test.YtfogphljilgogaaTxnF
import Derived.WalkKit
import Derived.WalkSpells
import Derived.WalkLawsBesides
import Derived.ProofKit
import Derived.Deep.RegionHeld3
import Derived.BigQuiet
namespace Go.Proofs.Ytfogphljilgogaa
open Go.RowKit

def flatB (bs : List BtA) : List TxA := bs.flatMap (fun b => b.l)
/-- All transactions, site by site. -/
def allX (ss : List StA) : List TxA := flatB (allB ss)
theorem flatB_app (a b : List BtA) : flatB (a ++ b) = flatB a ++ flatB b := by simp [flatB]
theorem allX_split (ss : List StA) (k j i : Nat) (hk : k < ss.length) (hj : j < (ss.getD k st0).bs.length) (hi : i < ((ss.getD k st0).bs.getD j b0).l.length) :
    ∃ t, allX ss = (flatB (allB (ss.take k)) ++ flatB ((ss.getD k st0).bs.take j) ++ ((ss.getD k st0).bs.getD j b0).l.take i) ++ (((ss.getD k st0).bs.getD j b0).l.getD i x0 :: t) := by
  obtain ⟨_, t, ht⟩ := allB_part ss k j hk hj
  generalize (ss.getD k st0).bs = bs at *
  generalize hb : bs.getD j b0 = b at *
  refine ⟨b.l.drop (i + 1) ++ flatB t, ?_⟩
  have e1 : b.l = b.l.take i ++ (b.l.getD i x0 :: b.l.drop (i + 1)) := by rw [← drop_get _ i x0 hi, List.take_append_drop]
  unfold allX
  rw [← ht, flatB_app, flatB_app, flatB_app]
  have e2 : flatB [b] = b.l := by simp [flatB]
  rw [e2]
  conv => lhs; rw [e1]
  simp [List.append_assoc]

variable (qa : Option Addr) (qc : Nat) (ss : List StA)

set_option maxRecDepth 100000 in
set_option maxHeartbeats 2000000 in
theorem merged_many (w : World) (hS : IsSt w qa ss) (hsl : ss.length ≤ maxLen) (hT : tooManyV ss = true) :
    Calls Try.prog 64 #[.slice qa ss.length qc] w fun e w' => e = .returned (.tuple #[.slice none 0 0, .slice none 0 0, .int .i64 2]) ∧ Below w.heap.size w w' := by
  unfold maxLen at hsl
  have HS : Hid (IsSt w qa ss) := hS
  have HTT : Hid (tooManyV ss = true) := hT
  clear hS hT
  by_cases h3 : 3 < ss.length
  · have h3' : (3 : Int) < (ss.length : Int) := by omega
    go_enter Try.func64, Try.ntmps64
    go_wp2
    go_ret3
    exact ⟨rfl, Below.refl _ _⟩
  · have h3' : ¬ (3 : Int) < (ss.length : Int) := by omega
    go_enter Try.func64, Try.ntmps64
    go_wp2
    go_loopw [5, 6, 7] (fun t i _ wr => ∃ k : Nat, k ≤ ss.length ∧ i = .int .i64 k ∧ Hid (∀ i, i < k → ¬ 6 < (ss.getD i st0).bs.length) ∧ t = .int .i64 (wsum (allB (ss.take k))) ∧ wr = w) (fun _ i _ _ => ss.length - (intOf i).toNat)
    case atStart => exact ⟨0, Nat.zero_le _, rfl, (fun i hi => absurd hi (by omega)), rfl, rfl⟩
    case round =>
      obtain ⟨k, hk, rfl, hno, rfl, rfl⟩ := hrel
      by_cases hlt : k < ss.length
      · obtain ⟨b, off, rfl, _, c0, hbs, hbl⟩ := HS.out k hlt
        have HBS : Hid (IsBs wr (ss.getD k st0).a (ss.getD k st0).bs) := hbs
        have HT : Hid (allB (ss.take (k + 1)) = allB (ss.take k) ++ (ss.getD k st0).bs) := allB_take ss k hlt
        have k1 : (0 : Int) ≤ (k : Int) := by omega
        have k2 : (k : Int) < (ss.length : Int) := by omega
        have HSB : Hid ((ss.getD k st0).bs = (ss.getD k st0).bs) := rfl
        clear hbs
        unfold maxLen at hbl
        generalize hgs : ss.getD k st0 = s at *
        obtain ⟨sa, sc, bs⟩ := s
        simp only at c0 hbl HT HBS
        by_cases h6 : 6 < bs.length
        · have h6' : (6 : Int) < (bs.length : Int) := by omega
          clear hgs
          go_wp2
          go_ret3
          exact ⟨rfl, Below.refl _ _⟩
        · have h6' : ¬ (6 : Int) < (bs.length : Int) := by omega
          have hno2 : Hid (∀ i, i < k + 1 → ¬ 6 < (ss.getD i st0).bs.length) := fun i hi => by
            by_cases c : i < k
            · exact hno.out i c
            · have e : i = k := by omega
              rw [e, hgs]
              exact h6
          clear hgs hno HSB
          go_wp2
          go_loopw [5, 7] (fun t i wx => ∃ j : Nat, j ≤ bs.length ∧ i = .int .i64 j ∧ t = .int .i64 (wsum (allB (ss.take k) ++ bs.take j)) ∧ wx = wr) (fun _ i _ => bs.length - (intOf i).toNat)
          case atStart => exact ⟨0, Nat.zero_le _, rfl, by simp, rfl⟩
          case round =>
            obtain ⟨j, hj, rfl, rfl, rfl⟩ := hrel
            by_cases hlt2 : j < bs.length
            · obtain ⟨b', off', rfl, _, e0, _⟩ := HBS.out j hlt2
              have HTj : Hid (wsum (allB (ss.take k) ++ bs.take (j + 1)) = wrap64 (wsum (allB (ss.take k) ++ bs.take j) + (bs.getD j b0).l.length)) := by
                show _ = _
                rw [bt_take bs j hlt2, ← List.append_assoc]
                exact wsum_snoc _ _
              generalize wsum (allB (ss.take k) ++ bs.take j) = T at *
              generalize (bs.getD j b0).l.length = len at *
              have j1 : (0 : Int) ≤ (j : Int) := by omega
              have j2 : (j : Int) < (bs.length : Int) := by omega
              go_wp2
              go_roundw
              case rel => exact ⟨j + 1, by omega, by go_num, by rw [HTj.out], trivial⟩
              case measure => simp [intOf]; omega
            · have hjj : j = bs.length := by omega
              have HTk : Hid (wsum (allB (ss.take (k + 1))) = wsum (allB (ss.take k) ++ bs.take j)) := by
                show _ = _
                rw [HT.out, hjj, List.take_of_length_le (Nat.le_refl _)]
              generalize wsum (allB (ss.take k) ++ bs.take j) = T at *
              clear hjj
              go_wp2
              go_roundw
              case rel => exact ⟨k + 1, by omega, by go_num, hno2, by rw [HTk.out], trivial⟩
              case measure => simp [intOf]; omega
      · have hkk : k = ss.length := by omega
        rw [hkk, List.take_of_length_le (Nat.le_refl _)]
        have HN6 : Hid (∀ i, i < ss.length → ¬ 6 < (ss.getD i st0).bs.length) := fun i hi => hno.out i (by omega)
        clear hno
        clear hkk hk hlt
        have h8 : (8 : Int) < wsum (allB ss) := by
          have h := HTT.out
          unfold tooManyV at h
          rw [Bool.or_eq_true, Bool.or_eq_true] at h
          rcases h with (h | h) | h
          · exact absurd (of_decide_eq_true h) h3
          · obtain ⟨s, hs, h6⟩ := List.any_eq_true.1 h
            obtain ⟨i, hi, rfl⟩ := List.mem_iff_getElem.1 hs
            have hn := HN6.out i hi
            have e : ss.getD i st0 = ss[i] := by simp [List.getD, hi]
            rw [e] at hn
            exact absurd (of_decide_eq_true h6) hn
          · exact of_decide_eq_true h
        generalize wsum (allB ss) = T at *
        clear HN6
        go_wp2
        go_ret3
        exact ⟨rfl, Below.refl _ _⟩
end Go.Proofs.Ytfogphljilgogaa
