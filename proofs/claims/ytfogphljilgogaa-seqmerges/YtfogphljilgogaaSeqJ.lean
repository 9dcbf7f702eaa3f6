/-
  Where the transactions of a sequence come from: each from elsewhere, in the order of epochs and sites.
  Conditions: none.
-/
import Derived.Test.YtfogphljilgogaaSeqI
namespace Go.Proofs.Ytfogphljilgogaa
open Go.RowKit

/-- Ahead: of an earlier epoch, or of an earlier site of the same. -/
def EvLt (x y : EvA) : Prop := x.e < y.e ∨ (x.e = y.e ∧ x.s < y.s)
theorem rowTo_in {ss : List StA} {e : Nat} {x : EvA} : ∀ k, x ∈ rowTo ss e k → x.e = e ∧ x.s < k
  | 0, h => by cases h
  | k + 1, h => by
    rw [rowTo, List.mem_append] at h
    rcases h with h | h
    · have := rowTo_in k h
      omega
    · by_cases c : e < (ss.getD k st0).bs.length
      · rw [if_pos c] at h
        simp only [List.mem_singleton] at h
        subst h
        exact ⟨rfl, Nat.lt_succ_self _⟩
      · rw [if_neg c] at h; cases h
theorem epTo_in {ss : List StA} {x : EvA} : ∀ e, x ∈ epTo ss e → x.e < e
  | 0, h => by cases h
  | e + 1, h => by
    rw [epTo, List.mem_append] at h
    rcases h with h | h
    · have := epTo_in e h
      omega
    · have := rowTo_in _ h
      omega
theorem rowTo_sorted (ss : List StA) (e : Nat) : ∀ k, (rowTo ss e k).Pairwise EvLt
  | 0 => List.Pairwise.nil
  | k + 1 => by
    rw [rowTo, List.pairwise_append]
    refine ⟨rowTo_sorted ss e k, ?_, fun x hx y hy => ?_⟩
    · split
      · exact List.pairwise_singleton _ _
      · exact List.Pairwise.nil
    · have h1 := rowTo_in k hx
      by_cases c : e < (ss.getD k st0).bs.length
      · rw [if_pos c] at hy
        simp only [List.mem_singleton] at hy
        subst hy
        exact .inr ⟨h1.1, h1.2⟩
      · rw [if_neg c] at hy; cases hy
theorem epTo_sorted (ss : List StA) : ∀ e, (epTo ss e).Pairwise EvLt
  | 0 => List.Pairwise.nil
  | e + 1 => by
    rw [epTo, List.pairwise_append]
    refine ⟨epTo_sorted ss e, rowTo_sorted ss e _, fun x hx y hy => ?_⟩
    have h1 := epTo_in e hx
    have h2 := (rowTo_in _ hy).1
    exact .inl (by omega)
theorem evs_sorted (ss : List StA) : (evs ss).Pairwise EvLt := epTo_sorted ss 6

theorem mergedX_app (p q : List EvA) : mergedX (p ++ q) = mergedX p ++ mergedX q := by simp [mergedX]
theorem mergedX_cons (x : EvA) (q : List EvA) : mergedX (x :: q) = x.b.l ++ mergedX q := rfl
/-- At n stands transaction k of batch x. -/
def At (es : List EvA) (n : Int) (x : EvA) (k : Int) : Prop := ∃ p t, es = p ++ x :: t ∧ 0 ≤ k ∧ k < x.b.l.length ∧ n = (mergedX p).length + k
theorem seek_at : ∀ (es : List EvA) (n : Int), 0 ≤ n → n < (mergedX es).length → ∃ x k, seek es n = some (x.s, x.e, k) ∧ At es n x k
  | [], n, h0, h1 => absurd h1 (by simp [mergedX]; omega)
  | x :: t, n, h0, h1 => by
    by_cases c : n < x.b.l.length
    · exact ⟨x, n, by simp [seek, c], [], t, rfl, h0, c, by simp [mergedX]⟩
    · rw [mergedX_cons, List.length_append] at h1
      obtain ⟨y, k, hs, p, q, he, hk0, hk1, hn⟩ := seek_at t (n - x.b.l.length) (by omega) (by omega)
      refine ⟨y, k, ?_, x :: p, q, by rw [he]; rfl, hk0, hk1, ?_⟩
      · rw [seek, if_neg c]
        exact hs
      · rw [mergedX_cons, List.length_append]
        omega
theorem at_mem {es : List EvA} {n k : Int} {x : EvA} (h : At es n x k) : x ∈ es := by
  obtain ⟨p, t, he, _⟩ := h
  rw [he]
  simp
theorem at_get {es : List EvA} {n k : Int} {x : EvA} (h : At es n x k) : (mergedX es).getD n.toNat x0 = x.b.l.getD k.toNat x0 := by
  obtain ⟨p, t, he, h0, h1, hn⟩ := h
  obtain ⟨j, rfl⟩ := Int.eq_ofNat_of_zero_le h0
  have en : n.toNat = (mergedX p).length + j := by omega
  rw [he, mergedX_app, mergedX_cons, en, List.getD_eq_getElem?_getD, List.getElem?_append_right (by omega), Nat.add_sub_cancel_left, List.getElem?_append_left (by omega)]
  rw [List.getD_eq_getElem?_getD]
  simp
/-- Who is behind is of no earlier epoch, and of no earlier site of the same. -/
theorem at_lt {es : List EvA} (hs : es.Pairwise EvLt) {n m k j : Int} {x y : EvA} (hx : At es n x k) (hy : At es m y j) (h : n < m) : EvLt x y ∨ (x.e = y.e ∧ x.s = y.s ∧ k < j) := by
  obtain ⟨p, t, he, h0, h1, hn⟩ := hx
  obtain ⟨q, r, he', g0, g1, hm⟩ := hy
  have hl : (mergedX p).length + x.b.l.length ≤ (mergedX q).length ∨ (p = q ∧ x = y) ∨ (mergedX q).length + y.b.l.length ≤ (mergedX p).length := by
    rw [he] at he'
    rcases List.append_eq_append_iff.1 he' with ⟨a, e1, e2⟩ | ⟨a, e1, e2⟩
    · cases a with
      | nil =>
        rw [List.append_nil] at e1
        rw [List.nil_append] at e2
        injection e2 with e2 e3
        exact .inr (.inl ⟨e1.symm, e2⟩)
      | cons z a =>
        rw [List.cons_append] at e2
        injection e2 with e2 e3
        subst e2
        left
        rw [e1, mergedX_app, mergedX_cons, List.length_append, List.length_append]
        omega
    · cases a with
      | nil =>
        rw [List.append_nil] at e1
        rw [List.nil_append] at e2
        injection e2 with e2 e3
        exact .inr (.inl ⟨e1, e2.symm⟩)
      | cons z a =>
        rw [List.cons_append] at e2
        injection e2 with e2 e3
        subst e2
        right
        right
        rw [e1, mergedX_app, mergedX_cons, List.length_append, List.length_append]
        omega
  rcases hl with hl | ⟨e1, e2⟩ | hl
  · left
    have hmem : y ∈ t := by
      rw [he] at he'
      rcases List.append_eq_append_iff.1 he' with ⟨a, e1, e2⟩ | ⟨a, e1, e2⟩
      · cases a with
        | nil =>
          rw [List.append_nil] at e1
          rw [List.nil_append] at e2
          injection e2 with e2 e3
          subst e1 e2
          omega
        | cons z a =>
          rw [List.cons_append] at e2
          injection e2 with e2 e3
          rw [e3]
          simp
      · exfalso
        rw [e1, mergedX_app, List.length_append] at hl
        omega
    rw [he, List.pairwise_append] at hs
    exact List.rel_of_pairwise_cons hs.2.1 hmem
  · subst e1 e2
    exact .inr ⟨rfl, rfl, by omega⟩
  · omega
end Go.Proofs.Ytfogphljilgogaa
