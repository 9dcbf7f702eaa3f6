/-
  
  Conditions: those that each theorem states.
-/
import Derived.Test.YtcgpkonfneofdaaGreatSOwnA
import Derived.Test.YtcgpkonfneofdaaGreatSAudH
namespace Go.Proofs.YtcgpkonfneofdaaGreat
open Go.RowKit
theorem newsA {w : World} {ad : Addr} {zs : List Int} (h : IsInts w (some ad) zs) : ∀ (j : Nat) (u : Value), (zs.map (Value.int .i64))[j]? = some u → w.cell? (ad.add j) = some u := fun j u hj => by
 have hlt : j < zs.length := by
  have := (List.getElem?_eq_some_iff.1 hj).1
  simpa using this
 obtain ⟨b, off, ha, hb, hc⟩ := h j hlt
 injection ha with ha
 subst ha
 rw [add_none, hc]
 simp [hlt] at hj
 simp [List.getD, hlt, ← hj]
theorem audE_right {s : List Int} {l : List TxA} {en : List Int} {r : List (Bool × List Int)} (h : serE s l = 0) (he : en.length = 8) (hr : r.length = l.length) : audE s l en r = 0 := by
 have e1 : sRes s l = serRes s l := if_pos h
 unfold audE lenE cntE
 rw [h, if_pos he, if_pos (by rw [hr, e1, serRes_len])]
 rfl
theorem audV_stands {s : List Int} {l : List TxA} (h : serE s l = 0) : audV s l (serEnd s l) (serRes s l) = -1 := by
 have h8 := (serE_zero h).1
 have e0 : audE s l (serEnd s l) (serRes s l) = 0 := audE_right h (by rw [serEnd_len]; exact h8) (serRes_len _ _)
 have e1 : sRes s l = serRes s l := if_pos h
 have e2 : sEnd s l = serEnd s l := if_pos h
 unfold audV audN
 rw [if_pos e0, if_pos e1, if_pos e2]
theorem audV_store {s : List Int} {l : List TxA} (h : serE s l = 0) {en : List Int} (he : en.length = 8) (hne : ¬ serEnd s l = en) : audV s l en (serRes s l) = (l.length : Nat) := by
 have e0 : audE s l en (serRes s l) = 0 := audE_right h he (serRes_len _ _)
 have e1 : sRes s l = serRes s l := if_pos h
 have e2 : sEnd s l = serEnd s l := if_pos h
 unfold audV audN
 rw [if_pos e0, if_pos e1, if_neg (by rw [e2]; exact hne)]
theorem audV_result {s : List Int} {l : List TxA} (h : serE s l = 0) {i : Nat} (hi : i < l.length) : audV s l (serEnd s l) ((serRes s l).set i (!((serRes s l).getD i (false, [])).1, ((serRes s l).getD i (false, [])).2)) = (i : Nat) := by
 have h8 := (serE_zero h).1
 have e1 : sRes s l = serRes s l := if_pos h
 have hl : (serRes s l).length = l.length := serRes_len _ _
 have e0 : audE s l (serEnd s l) ((serRes s l).set i (!((serRes s l).getD i (false, [])).1, ((serRes s l).getD i (false, [])).2)) = 0 := audE_right h (by rw [serEnd_len]; exact h8) (by rw [List.length_set]; exact hl)
 obtain ⟨f1, f2⟩ := fD_at (serRes s l) ((serRes s l).set i (!((serRes s l).getD i (false, [])).1, ((serRes s l).getD i (false, [])).2)) i (by omega) (by rw [List.length_set]; omega) (fun j hj => by
  have hne : i ≠ j := by omega
  simp [List.getD, List.getElem?_set_ne hne]) (fun e => by
  have hi' : i < (serRes s l).length := by omega
  have e2 : ((serRes s l).set i (!((serRes s l).getD i (false, [])).1, ((serRes s l).getD i (false, [])).2)).getD i (false, []) = (!((serRes s l).getD i (false, [])).1, ((serRes s l).getD i (false, [])).2) := by
   generalize (!((serRes s l).getD i (false, [])).1, ((serRes s l).getD i (false, [])).2) = z
   simp [List.getD, hi']
  rw [e2] at e
  have e3 := congrArg Prod.fst e
  simp at e3)
 unfold audV audN
 rw [if_pos e0, e1, if_neg f2, f1]
theorem res_rl {w : World} {b off : Nat} {R : List (Bool × List Int)} (h : IsRes w (some ⟨b, off, none⟩) R) : ∃ rl : List RsA, rl.map RsA.told = R ∧ rl.length = R.length ∧ (∀ j u, (flatR rl)[j]? = some u → w.cell? ((⟨b, off, none⟩ : Addr).add j) = some u) ∧ ∀ k, k < R.length → IsInts w (rl.getD k r0).va (R.getD k (false, [])).2 ∧ (rl.getD k r0).vs = (R.getD k (false, [])).2 ∧ (rl.getD k r0).d = (R.getD k (false, [])).1 := by
 have : Inhabited RsA := ⟨r0⟩
 obtain ⟨f, hf⟩ := Go.Deep.choose_lt (α := RsA) (n := R.length) (p := fun i x => x.d = (R.getD i (false, [])).1 ∧ x.vs = (R.getD i (false, [])).2 ∧ w.cell? ⟨b, off + i * 2, none⟩ = some (.bool x.d) ∧ w.cell? ⟨b, off + i * 2 + 1, none⟩ = some (.slice x.va x.vs.length x.vc) ∧ IsInts w x.va x.vs) (fun i hi => by
  obtain ⟨b', off', va, vc, e, _, c0, c1, hz⟩ := h i hi
  injection e with e
  injection e with e1 e2
  subst e1 e2
  exact ⟨⟨va, vc, (R.getD i (false, [])).1, (R.getD i (false, [])).2⟩, rfl, rfl, c0, c1, hz⟩)
 have hg : ∀ k, k < R.length → ((List.range R.length).map f).getD k r0 = f k := fun k hk => by simp [List.getD, hk]
 refine ⟨(List.range R.length).map f, ?_, by simp, fun j u hu => ?_, fun k hk => ?_⟩
 ·apply List.ext_getElem
  ·simp
  ·intro k h1 h2
   have hk : k < R.length := h2
   obtain ⟨d1, d2, _⟩ := hf k hk
   simp only [List.getElem_map, List.getElem_range, RsA.told]
   rw [d1, d2]
   simp [List.getD, hk]
 ·have hl : (flatR ((List.range R.length).map f)).length = R.length * 2 := by rw [flatR_len]; simp
  have hj : j < R.length * 2 := by rw [← hl]; exact (List.getElem?_eq_some_iff.1 hu).1
  have hk : j / 2 < R.length := by omega
  obtain ⟨e0, e1⟩ := flatR_at ((List.range R.length).map f) (j / 2) (by simpa using hk)
  rw [hg _ hk] at e0 e1
  obtain ⟨_, _, c0, c1, _⟩ := hf (j / 2) hk
  rw [add_none]
  rcases Nat.mod_two_eq_zero_or_one j with hm | hm
  ·have ej : j / 2 * 2 = j := by omega
   rw [ej] at e0 c0
   rw [hu] at e0
   injection e0 with e0
   rw [e0]
   exact c0
  ·have ej : j / 2 * 2 + 1 = j := by omega
   have ej2 : off + j / 2 * 2 + 1 = off + j := by omega
   rw [ej] at e1
   rw [ej2] at c1
   rw [hu] at e1
   injection e1 with e1
   rw [e1]
   exact c1
 ·obtain ⟨d1, d2, _, _, hz⟩ := hf k hk
  rw [hg k hk]
  exact ⟨by rw [← d2]; exact hz, d2, d1⟩
theorem set_ints {w : World} {g K : Nat} {E : List Int} {x : Int} (h : ∀ j, j < E.length → w.cell? ⟨g, j, none⟩ = some (.int .i64 (E.getD j 0))) (hK : K < E.length) : IsInts (w.setCell ⟨g, K, none⟩ (.int .i64 x)) (some ⟨g, 0, none⟩) (E.set K x) := fun i hi => by
 rw [List.length_set] at hi
 have h1 := h i hi
 refine ⟨g, 0, rfl, by rw [World.size_setCell]; exact World.block_lt_of_cell? w ⟨g, i, none⟩ h1, ?_⟩
 rw [Nat.zero_add]
 by_cases e : i = K
 ·subst e
  rw [set_here h1]
  simp [List.getD, hK]
 ·rw [set_off e h1]
  have e' : K ≠ i := fun h => e h.symm
  simp [List.getD, List.getElem?_set_ne e']
theorem set_res {V U : World} {g i : Nat} {R : List (Bool × List Int)} {rl : List RsA} {d : Bool} (hrl : rl.length = R.length) (hc : ∀ j u, (flatR rl)[j]? = some u → U.cell? ⟨g, j, none⟩ = some u) (hz : ∀ k, k < R.length → IsInts V (rl.getD k r0).va (R.getD k (false, [])).2 ∧ (rl.getD k r0).vs = (R.getD k (false, [])).2 ∧ (rl.getD k r0).d = (R.getD k (false, [])).1) (hb : Below V.heap.size V (U.setCell ⟨g, i * 2, none⟩ (.bool d))) (hi : i < R.length) : IsRes (U.setCell ⟨g, i * 2, none⟩ (.bool d)) (some ⟨g, 0, none⟩) (R.set i (d, (R.getD i (false, [])).2)) := fun k hk => by
 rw [List.length_set] at hk
 obtain ⟨e0, e1⟩ := flatR_at rl k (by omega)
 obtain ⟨z1, z2, z3⟩ := hz k hk
 have c0 := hc _ _ e0
 have c1 := hc _ _ e1
 rw [z2] at c1
 refine ⟨g, 0, (rl.getD k r0).va, (rl.getD k r0).vc, rfl, by rw [World.size_setCell]; exact World.block_lt_of_cell? U ⟨g, k * 2, none⟩ c0, ?_⟩
 rw [Nat.zero_add]
 have c1' := set_off (v := .bool d) (show k * 2 + 1 ≠ i * 2 by omega) c1
 by_cases e : k = i
 ·subst e
  have eg : (R.set k (d, (R.getD k (false, [])).2)).getD k (false, []) = (d, (R.getD k (false, [])).2) := by
   generalize (d, (R.getD k (false, [])).2) = z
   simp [List.getD, hk]
  rw [eg]
  exact ⟨set_here c0, c1', z1.below hb⟩
 ·have eg : (R.set i (d, (R.getD i (false, [])).2)).getD k (false, []) = R.getD k (false, []) := by
   have e' : i ≠ k := fun h => e h.symm
   simp [List.getD, List.getElem?_set_ne e']
  rw [eg]
  rw [z3] at c0
  exact ⟨set_off (show k * 2 ≠ i * 2 by omega) c0, c1', z1.below hb⟩
end Go.Proofs.YtcgpkonfneofdaaGreat
