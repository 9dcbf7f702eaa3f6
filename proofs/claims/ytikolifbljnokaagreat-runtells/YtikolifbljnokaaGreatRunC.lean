/-
  run.Run: all applied in the order of picks; the results in the order of transactions.
  Conditions: the arguments can be read.
-/
import Derived.Test.YtikolifbljnokaaGreatRunB
import Derived.Test.YtikolifbljnokaaGreatSeqZ
import Derived.OwnWalk
import Derived.Laws.OwnMore
import Derived.WalkKit
import Derived.WalkSpells
import Derived.WalkLawsBesides
import Derived.ProofKit
import Derived.Deep.RegionHeld
import Derived.Deep.RegionHeld3
import Derived.BigQuiet
import Derived.Deep.RegionLaw
import Derived.Deep.DeepCutAuto
import Derived.Maps.AppendAt
namespace Go.Proofs.YtikolifbljnokaaGreat
open Go.RowKit

/-- The picks as places; those picked, in their order. -/
def pN (picks : List Int) : List Nat := picks.map Int.toNat
def pX (l : List TxA) (picks : List Int) : List TxA := (pN picks).map (gX l)
theorem pX_len (l : List TxA) (picks : List Int) : (pX l picks).length = picks.length := by simp [pX, pN]
theorem pX_take (l : List TxA) (picks : List Int) (k : Nat) (h : k < picks.length) : pX l (picks.take (k + 1)) = pX l (picks.take k) ++ [gX l (picks.getD k 0).toNat] := by
  unfold pX pN
  rw [List.take_succ_eq_append_getElem h, List.map_append, List.map_append]
  simp [List.getD, h]
theorem pkE_in (l : List TxA) : ∀ (picks : List Int) (d : List Bool), pkE l d picks = 0 → ∀ k, k < picks.length → 0 ≤ picks.getD k 0 ∧ (picks.getD k 0).toNat < l.length
  | [], _, _, k, h => by simp at h
  | p :: t, d, h, k, hk => by
    rw [pkE] at h
    have hp : pick1 l d p = 0 := by
      by_cases c : pick1 l d p = 0
      · exact c
      · rw [if_neg c] at h; exact h
    rw [if_pos hp] at h
    obtain ⟨h0, h1, _⟩ := pick1_zero hp
    match k, hk with
    | 0, _ => exact ⟨by simpa using h0, by simpa using h1⟩
    | k + 1, hk =>
      have := pkE_in l t _ h k (by simpa using hk)
      simpa [List.getD] using this
theorem adm_len (l : List TxA) : ∀ (picks left : List Nat), Adm l left picks → picks.length = left.length
  | [], left, h => by
    have h' : left = [] := h
    rw [h']
  | n :: t, left, h => by
    obtain ⟨hm, _, ha⟩ := h
    have := adm_len l t _ ha
    rw [List.length_erase_of_mem hm] at this
    have hpos : 0 < left.length := List.length_pos_of_mem hm
    simp
    omega
theorem ckE_zero {s : List Int} {l : List TxA} {picks : List Int} (h : ckE s l picks = 0) : prE s l picks = 0 ∧ pkE l (d0 l) picks = 0 ∧ leftE (dnP (d0 l) picks) = 0 := by
  unfold ckE at h
  by_cases h1 : prE s l picks = 0
  · rw [if_pos h1] at h
    by_cases h2 : pkE l (d0 l) picks = 0
    · rw [if_pos h2] at h
      exact ⟨h1, h2, h⟩
    · rw [if_neg h2] at h; exact absurd h h2
  · rw [if_neg h1] at h; exact absurd h h1
theorem ckE_adm {s : List Int} {l : List TxA} {picks : List Int} (h : ckE s l picks = 0) : Adm l (List.range l.length) (pN picks) := by
  obtain ⟨_, h2, h3⟩ := ckE_zero h
  have hd : (d0 l).length = l.length := by simp [d0]
  have := pkE_adm l picks (d0 l) hd h2 (fun i hi => by
    have := leftE_zero.1 h3 i (by rw [dnP_len, hd]; exact hi)
    exact this)
  rw [show leftOf l (d0 l) = List.range l.length from leftOf_start l] at this
  exact this
theorem ckE_same {s : List Int} {l : List TxA} {picks : List Int} (h : ckE s l picks = 0) (R0 : List (Bool × List Int)) (h0 : R0.length = l.length) : serEnd s (pX l picks) = serEnd s l ∧ putRes R0 (pN picks) (serRes s (pX l picks)) = serRes s l ∧ picks.length = l.length := by
  have hC := (prE_zero (ckE_zero h).1).2.1
  have ha := ckE_adm h
  obtain ⟨h1, h2⟩ := adm_all l (fun i hi => good_of (chkL_at0 hC i hi)) (pN picks) s ha R0 h0
  refine ⟨h1, h2, ?_⟩
  have := adm_len l _ _ ha
  simpa [pN] using this
theorem pX_chk {s : List Int} {l : List TxA} {picks : List Int} (h : ckE s l picks = 0) : chkL (pX l picks) = 0 := by
  obtain ⟨h1, h2, _⟩ := ckE_zero h
  have hC := (prE_zero h1).2.1
  have hl := (ckE_same h (List.replicate l.length (false, [])) (by simp)).2.2
  have hl8 := chkL_small hC
  unfold chkL
  rw [if_neg (by rw [pX_len]; omega)]
  have key : ∀ z ∈ (pX l picks).map chkX, z = 0 := by
    intro z hz
    obtain ⟨x, hx, rfl⟩ := List.mem_map.1 hz
    obtain ⟨i, hi, rfl⟩ := List.mem_map.1 hx
    obtain ⟨p, hp, rfl⟩ := List.mem_map.1 hi
    obtain ⟨k, hk, rfl⟩ := List.mem_iff_getElem.1 hp
    have := (pkE_in l picks (d0 l) h2 k hk).2
    rw [show picks.getD k 0 = picks[k] by simp [List.getD, hk]] at this
    exact chkL_at0 hC _ this
  generalize (pX l picks).map chkX = L at key
  induction L with
  | nil => rfl
  | cons a t ih =>
    unfold firstNZ
    rw [if_pos (key a List.mem_cons_self)]
    exact ih (fun z hz => key z (List.mem_cons_of_mem _ hz))

/-- Results laid at their places, as they lie in memory. -/
def putR (R : List RsA) : List Nat → List RsA → List RsA
  | n :: t, r :: rs => putR (R.set n r) t rs
  | _, _ => R
theorem putR_told : ∀ (ps : List Nat) (R rs : List RsA), (putR R ps rs).map RsA.told = putRes (R.map RsA.told) ps (rs.map RsA.told)
  | [], R, rs => by cases rs <;> rfl
  | n :: t, R, [] => rfl
  | n :: t, R, r :: rs => by
    rw [putR, List.map_cons, putRes, putR_told t, List.map_set]
theorem putR_len : ∀ (ps : List Nat) (R rs : List RsA), (putR R ps rs).length = R.length
  | [], R, rs => by cases rs <;> rfl
  | n :: t, R, [] => rfl
  | n :: t, R, r :: rs => by rw [putR, putR_len t]; simp
theorem putR_step : ∀ (ps : List Nat) (R rs : List RsA) (k : Nat), k < ps.length → k < rs.length → putR R (ps.take (k + 1)) (rs.take (k + 1)) = (putR R (ps.take k) (rs.take k)).set (ps.getD k 0) (rs.getD k r0)
  | p :: ps, R, r :: rs, 0, _, _ => by simp [putR]
  | p :: ps, R, r :: rs, k + 1, h, h' => by
    simp only [List.take_succ_cons, putR]
    have := putR_step ps (R.set p r) rs k (by simpa using h) (by simpa using h')
    rw [this]
    simp [List.getD]
  | [], _, _, _, h, _ => absurd h (by simp)
  | _ :: _, _, [], _, _, h => absurd h (by simp)
theorem putR_mem : ∀ (ps : List Nat) (R rs : List RsA) (x : RsA), x ∈ putR R ps rs → x ∈ R ∨ x ∈ rs
  | [], R, rs, x, h => by cases rs <;> exact .inl h
  | n :: t, R, [], x, h => .inl h
  | n :: t, R, r :: rs, x, h => by
    rcases putR_mem t _ rs x h with h | h
    · rcases List.mem_or_eq_of_mem_set h with h | rfl
      · exact .inl h
      · exact .inr List.mem_cons_self
    · exact .inr (List.mem_cons_of_mem _ h)
def put2R (w : World) (g i : Nat) (r : RsA) : World := (w.setCell ⟨g, i * 2, none⟩ (.bool r.d)).setCell ⟨g, i * 2 + 1, none⟩ (.slice r.va r.vs.length r.vc)
theorem flatR_setR : ∀ (l : List RsA) (i : Nat) (x : RsA), i < l.length → flatR (l.set i x) = ((flatR l).set (i * 2) (.bool x.d)).set (i * 2 + 1) (.slice x.va x.vs.length x.vc)
  | [], i, x, h => by simp at h
  | y :: t, 0, x, _ => by simp [flatR, rcells]
  | y :: t, i + 1, x, h => by
    have ih := flatR_setR t i x (by simpa using h)
    have e1 : (i + 1) * 2 = i * 2 + 1 + 1 := by omega
    rw [List.set_cons_succ, e1]
    simp only [flatR, rcells, List.cons_append, List.nil_append, List.set_cons_succ]
    rw [ih]
theorem own_put2R {C : Nat} {w : World} {g cap k : Nat} {l : List RsA} (hk : l.length = k) (h : w.ownsRow C 41 2 (.slice (some ⟨g, 0, none⟩) k cap) k (flatR l)) (i : Nat) (hi : i < k) (x : RsA) : (put2R w g i x).ownsRow C 41 2 (.slice (some ⟨g, 0, none⟩) k cap) k (flatR (l.set i x)) := by
  rw [flatR_setR l i x (by omega)]
  exact ((h.stored (i * 2) _).1.stored (i * 2 + 1) _).1
end Go.Proofs.YtikolifbljnokaaGreat
