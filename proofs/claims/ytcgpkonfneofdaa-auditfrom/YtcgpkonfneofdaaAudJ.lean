/-
  Audit: from whom a value comes.
  Conditions: those that each theorem states.
-/
import Derived.Test.YtcgpkonfneofdaaAudD
import Derived.Test.YtcgpkonfneofdaaStoreM
import Derived.Test.YtcgpkonfneofdaaAudF
import Derived.WalkKit
import Derived.WalkSpells
import Derived.WalkLawsBesides
import Derived.Defers
import Derived.Recover
import Derived.ProofKit
import Derived.Deep.RegionHeld
import Derived.Deep.RegionHeld3
import Derived.Deep.RegionLaw
import Derived.Deep.DeepCutAuto
import Derived.Deep.QuietTactic
import Derived.BigQuiet
import Derived.Maps.AppendAt
import Derived.Lib.SliceRun
import Derived.Deep.AppendLies
namespace Go.Proofs.Ytcgpkonfneofdaa
open Go.RowKit

theorem rise_lt : ∀ (x : Int) (t : List Int), riseE (x :: t) = 0 → (∀ y ∈ t, x < y) ∧ riseE t = 0
  | _, [], _ => ⟨fun _ h => (by cases h), rfl⟩
  | x, y :: t, h => by
    have h' : (if y ≤ x then (1 : Int) else riseE (y :: t)) = 0 := h
    by_cases c : y ≤ x
    · rw [if_pos c] at h'; omega
    · rw [if_neg c] at h'
      obtain ⟨h1, _⟩ := rise_lt y t h'
      refine ⟨fun z hz => ?_, h'⟩
      rcases List.mem_cons.1 hz with rfl | hz
      · omega
      · have := h1 z hz; omega
theorem putAll_at : ∀ (ks s vs : List Int) (j : Nat), riseE ks = 0 → (∀ k ∈ ks, 0 ≤ k ∧ k.toNat < s.length) → j < ks.length → vs.length = ks.length → (putAll s ks vs).getD (ks.getD j 0).toNat 0 = vs.getD j 0
  | [], _, _, j, _, _, h, _ => absurd h (Nat.not_lt_zero _)
  | _ :: _, _, [], _, _, _, _, h => by simp at h
  | k :: ks, s, v :: vs, 0, hr, hk, _, _ => by
    show (putAll (s.set k.toNat v) ks vs).getD k.toNat 0 = v
    have h0 := hk k (List.mem_cons_self ..)
    rw [putAll_far ks _ _ _ (fun y hy => by
      have h1 := (rise_lt k ks hr).1 y hy
      have h2 := hk y (List.mem_cons_of_mem _ hy)
      omega)]
    exact getD_set_same _ _ _ h0.2
  | k :: ks, s, v :: vs, j + 1, hr, hk, hj, hl => by
    show (putAll (s.set k.toNat v) ks vs).getD (ks.getD j 0).toNat 0 = vs.getD j 0
    exact putAll_at ks (s.set k.toNat v) vs j (rise_lt k ks hr).2 (fun y hy => by
      have h2 := hk y (List.mem_cons_of_mem _ hy)
      rw [List.length_set]
      exact h2) (by simpa using hj) (by simpa using hl)
theorem chk_rise {rs : List Int} {gs : List Gd} {ss : List St} (h : chkTx rs gs ss = 0) : riseE (keysOf ss) = 0 := by
  have h1 : firstNZ [rangeE rs, rangeE (keysOf ss), riseE rs, riseE (keysOf ss)] = 0 := (chk_parts h).2.1
  exact firstNZ_zero _ h1 3
theorem serRes_is (s : List Int) (l : List TxA) (i : Nat) (h : i < l.length) : (serRes s l).getD i (false, []) = (aDone (serEnd s (l.take i)) (l.getD i x0), aVals (serEnd s (l.take i)) (l.getD i x0)) := by
  have h1 := serRes_app (l.take i) (l.drop i) s
  rw [List.take_append_drop] at h1
  have h2 : (serRes s (l.take i)).length = i := by rw [serRes_len, List.length_take]; omega
  rw [h1]
  rw [drop_get l i x0 h]
  simp only [serRes]
  rw [List.getD_eq_getElem?_getD, List.getElem?_append_right (by omega), h2]
  simp
/-- What lies at a key is what the one that set it last has made, or what lay there in the beginning. -/
theorem from_spec {s : List Int} {l : List TxA} (h8 : s.length = 8) (hc : chkL l = 0) (key : Int) (hk : 0 ≤ key ∧ key < 8) : ∀ N, N ≤ l.length →
    (lB (serRes s l) l key N = -1 ∧ getAt (serEnd s (l.take N)) key = getAt s key) ∨
    (∃ b : Nat, b < N ∧ lB (serRes s l) l key N = (b : Nat) ∧ ((serRes s l).getD b (false, [])).1 = true ∧ (∃ j, j < (l.getD b x0).ss.length ∧ ((l.getD b x0).ss.getD j s0).key = key) ∧
      ∀ j, j < (l.getD b x0).ss.length → ((l.getD b x0).ss.getD j s0).key = key → getAt (serEnd s (l.take N)) key = (allS ((serRes s l).getD b (false, [])).2 (l.getD b x0).ss).getD j 0)
  | 0, _ => Or.inl ⟨rfl, rfl⟩
  | N + 1, hN => by
    have hN' : N < l.length := by omega
    have hst := serEnd_step s l N hN'
    have hres := serRes_is s l N hN'
    have hck : chkTx (l.getD N x0).rs (l.getD N x0).gs (l.getD N x0).ss = 0 := chkL_at hc N hN'
    by_cases hd : ((serRes s l).getD N (false, [])).1 = true
    · have hdn : aDone (serEnd s (l.take N)) (l.getD N x0) = true := by rw [← serRes_at s l N hN']; exact hd
      by_cases hm : key ∈ keysOf (l.getD N x0).ss
      · right
        have hlB : lB (serRes s l) l key (N + 1) = (N : Nat) := by rw [lB, if_pos ⟨hd, hm⟩]
        have hval : (serRes s l).getD N (false, []) = (aDone (serEnd s (l.take N)) (l.getD N x0), rdOf (serEnd s (l.take N)) (l.getD N x0).rs) := hres
        have hmade : aMade (serEnd s (l.take N)) (l.getD N x0) = allS (rdOf (serEnd s (l.take N)) (l.getD N x0).rs) (l.getD N x0).ss := if_pos hdn
        have hlen : (serEnd s (l.take N)).length = 8 := by rw [serEnd_len]; exact h8
        refine ⟨N, by omega, hlB, hd, ?_, fun j hj hjk => ?_⟩
        · generalize (l.getD N x0).ss = ss at hm
          unfold keysOf at hm
          obtain ⟨z, hz, hzk⟩ := List.mem_map.1 hm
          obtain ⟨j, hj, hjz⟩ := List.mem_iff_getElem.1 hz
          exact ⟨j, hj, by simp [List.getD, hj, hjz, hzk]⟩
        · rw [hst, hval]
          show (putAll (serEnd s (l.take N)) (keysOf (l.getD N x0).ss) (aMade (serEnd s (l.take N)) (l.getD N x0))).getD key.toNat 0 = _
          rw [hmade]
          have hkj : (keysOf (l.getD N x0).ss).getD j 0 = key := by
            rw [← hjk]
            generalize (l.getD N x0).ss = ss at hj
            simp [keysOf, List.getD, hj]
          have hp := putAll_at (keysOf (l.getD N x0).ss) (serEnd s (l.take N)) (allS (rdOf (serEnd s (l.take N)) (l.getD N x0).rs) (l.getD N x0).ss) j (chk_rise hck) (fun y hy => by
            have h3 := rangeE_in _ (chk_ranges hck).2 y hy
            rw [hlen]
            omega) (by simpa [keysOf] using hj) (by simp [allS, keysOf])
          rw [hkj] at hp
          exact hp
      · have hlB : lB (serRes s l) l key (N + 1) = lB (serRes s l) l key N := by rw [lB, if_neg (fun h => hm h.2)]
        have hsame : getAt (serEnd s (l.take (N + 1))) key = getAt (serEnd s (l.take N)) key := by
          rw [hst]
          exact putAll_far _ _ _ _ (fun y hy => by
            have h3 := rangeE_in _ (chk_ranges hck).2 y hy
            intro e
            have : y = key := by omega
            exact hm (this ▸ hy))
        rcases from_spec h8 hc key hk N (by omega) with ⟨f1, f2⟩ | ⟨b, f1, f2, f3, f4, f5⟩
        · exact Or.inl ⟨hlB.trans f1, hsame.trans f2⟩
        · exact Or.inr ⟨b, by omega, hlB.trans f2, f3, f4, fun j hj hjk => hsame.trans (f5 j hj hjk)⟩
    · have hd' : ((serRes s l).getD N (false, [])).1 = false := by simpa using hd
      have hlB : lB (serRes s l) l key (N + 1) = lB (serRes s l) l key N := lB_off _ _ _ _ hd'
      have hsame : getAt (serEnd s (l.take (N + 1))) key = getAt (serEnd s (l.take N)) key := by
        rw [hst, aEnd_idle _ _ (by rw [← serRes_at s l N hN']; exact hd')]
      rcases from_spec h8 hc key hk N (by omega) with ⟨f1, f2⟩ | ⟨b, f1, f2, f3, f4, f5⟩
      · exact Or.inl ⟨hlB.trans f1, hsame.trans f2⟩
      · exact Or.inr ⟨b, by omega, hlB.trans f2, f3, f4, fun j hj hjk => hsame.trans (f5 j hj hjk)⟩
end Go.Proofs.Ytcgpkonfneofdaa
