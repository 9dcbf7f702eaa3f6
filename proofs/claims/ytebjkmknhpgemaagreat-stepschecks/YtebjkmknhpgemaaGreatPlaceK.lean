/-
  Where marks are; the law PlaceTrue, walked.
  Conditions: those that each theorem states.
-/
import Derived.Test.YtebjkmknhpgemaaGreatPlaceC
import Derived.Test.YtebjkmknhpgemaaGreatStoreC
import Derived.WalkKit
import Derived.WalkSpells
import Derived.WalkLawsBesides
import Derived.ProofKit
import Derived.Deep.RegionHeld3
import Derived.BigQuiet
namespace Go.Proofs.YtebjkmknhpgemaaGreat
open Go.RowKit

theorem marks_get (sh i : Nat) (hi : i < sh) : ∀ ks : List Int, (marks sh ks).getD i false = ks.any (fun k => k.toNat % sh == i) := by
  have key : ∀ (ks : List Int) (bs : List Bool), bs.length = sh → (ks.foldl (fun bs k => bs.set (k.toNat % sh) true) bs).getD i false = (bs.getD i false || ks.any (fun k => k.toNat % sh == i)) := by
    intro ks
    induction ks with
    | nil => intro bs _; simp
    | cons k t ih =>
      intro bs hb
      rw [List.foldl_cons, ih _ (by simpa using hb), List.any_cons]
      by_cases c : k.toNat % sh = i
      · subst c
        have e : (bs.set (k.toNat % sh) true).getD (k.toNat % sh) false = true := by simp [List.getD, hb, hi]
        rw [e]
        simp
      · have e : (bs.set (k.toNat % sh) true).getD i false = bs.getD i false := by simp [List.getD, c]
        rw [e]
        have e2 : (k.toNat % sh == i) = false := by simpa using c
        rw [e2, Bool.false_or]
  intro ks
  unfold marks
  rw [key ks _ (List.length_replicate)]
  simp [List.getD, hi]
theorem keys_any (L : List (Int × Bool)) (f : Int → Bool) : (keysIn L).any f = L.any (fun p => f p.1) := by
  unfold keysIn
  rw [List.any_map]
  rfl
theorem sets_any (L : List (Int × Bool)) (f : Int → Bool) : (setsIn L).any f = L.any (fun p => f p.1 && p.2) := by
  unfold setsIn
  rw [List.any_map, List.any_filter]
  congr 1
  funext p
  cases p.2 <;> simp
theorem any_take (L : List (Int × Bool)) (f : Int × Bool → Bool) (i : Nat) (h : i < L.length) : (L.take (i + 1)).any f = ((L.take i).any f || f (L.getD i (0, false))) := by
  rw [List.take_succ_eq_append_getElem h, List.any_append]
  simp [List.getD, h]
theorem any_bools (A : List Bool) (i : Nat) (h : i < A.length) : (A.take (i + 1)).any id = ((A.take i).any id || A.getD i false) := by
  rw [List.take_succ_eq_append_getElem h, List.any_append]
  simp [List.getD, h]

/-- Who is active has a part. -/
theorem active_part (sh i : Nat) (hi : i < sh) (L : List (Int × Bool)) (h : (marks sh (setsIn L)).getD i false = true) : (marks sh (keysIn L)).getD i false = true := by
  rw [marks_get sh i hi, sets_any] at h
  rw [marks_get sh i hi, keys_any]
  obtain ⟨p, hp, hq⟩ := List.any_eq_true.1 h
  exact List.any_eq_true.2 ⟨p, hp, (Bool.and_eq_true_iff.1 hq).1⟩
theorem lkTo_memK (rs ks : List Int) (j : Nat) (hj : (j : Int) ∈ ks) : ∀ n, j < n → ((j : Int), true) ∈ lkTo rs ks n
  | 0, h => absurd h (by omega)
  | n + 1, h => by
    rw [lkTo, List.mem_append]
    by_cases c : j = n
    · subst c
      right
      rw [if_pos (.inl hj)]
      simp [hj]
    · exact .inl (lkTo_memK rs ks j hj n (by omega))
/-- One is active somewhere. -/
theorem active_some (sh : Nat) (hs : 0 < sh) (x : TxA) (hx : chkX x = 0) : (marks sh (setsIn (lkTo x.rs (keysOf x.ss) 8))).any id = true := by
  have hm : manyE x.rs.length x.gs.length x.ss.length = 0 := by
    by_cases hm : manyE x.rs.length x.gs.length x.ss.length = 0
    · exact hm
    · have h1 := chk_many x.rs x.gs x.ss hm
      have h2 : chkTx x.rs x.gs x.ss = 0 := hx
      omega
  have h0 := (many_small _ _ _ hm).2.2.2
  obtain ⟨s, t, hst⟩ : ∃ s t, x.ss = s :: t := by
    cases hss : x.ss with
    | nil => rw [hss] at h0; simp at h0
    | cons s t => exact ⟨s, t, rfl⟩
  have hk : s.key ∈ keysOf x.ss := by rw [hst]; simp [keysOf]
  have hr := rangeE_in _ (chk_ranges hx).2 _ hk
  obtain ⟨j, hj⟩ : ∃ j : Nat, s.key = j := ⟨s.key.toNat, by omega⟩
  rw [hj] at hk hr
  have hmem := lkTo_memK x.rs (keysOf x.ss) j hk 8 (by omega)
  have hlt : j % sh < sh := Nat.mod_lt _ hs
  have hget : (marks sh (setsIn (lkTo x.rs (keysOf x.ss) 8))).getD (j % sh) false = true := by
    rw [marks_get sh _ hlt, sets_any]
    exact List.any_eq_true.2 ⟨_, hmem, by simp⟩
  have hl : (marks sh (setsIn (lkTo x.rs (keysOf x.ss) 8))).length = sh := marks_len _ _
  refine List.any_eq_true.2 ⟨true, ?_, rfl⟩
  rw [List.mem_iff_getElem]
  refine ⟨j % sh, by rw [hl]; exact hlt, ?_⟩
  simpa [List.getD, hl, hlt] using hget
end Go.Proofs.YtebjkmknhpgemaaGreat
