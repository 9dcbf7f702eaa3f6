/-
  The document's own merging of batches: the rows that it makes, and what stands in them.
  Conditions: those that each theorem states.
-/
import Derived.Test.YtfogphljilgogaaSeqP
import Derived.Test.YtfogphljilgogaaSeqJ
import Derived.Lib.OwnKind
import Derived.WalkKit
import Derived.WalkSpells
import Derived.WalkLawsBesides
import Derived.ProofKit
import Derived.Deep.RegionHeld3
import Derived.BigQuiet
namespace Go.Proofs.Ytfogphljilgogaa
open Go.RowKit

/-- Where a transaction comes from: site, epoch, place. -/
abbrev Tg := Nat × Nat × Nat
def tcells (t : Tg) : List Value := [.int .i64 t.1, .int .i64 t.2.1, .int .i64 t.2.2]
def flatT : List Tg → List Value
  | [] => []
  | t :: l => tcells t ++ flatT l
theorem flatT_len : ∀ l : List Tg, (flatT l).length = l.length * 3
  | [] => rfl
  | x :: l => by simp [flatT, tcells, flatT_len l]; omega
theorem flatT_app : ∀ (l m : List Tg), flatT (l ++ m) = flatT l ++ flatT m
  | [], _ => rfl
  | x :: l, m => by simp [flatT, flatT_app l m]
theorem flatT_one : ∀ (l : List Tg), ∀ u ∈ flatT l, u.oneCell' = true
  | [], u, h => by cases h
  | x :: l, u, h => by
      simp only [flatT, List.mem_append] at h
      rcases h with h | h
      · simp only [tcells, List.mem_cons, List.not_mem_nil, or_false] at h
        rcases h with rfl | rfl | rfl <;> rfl
      · exact flatT_one l u h
theorem flatT_at : ∀ (l : List Tg) (i j : Nat), i < l.length → j < 3 → (flatT l)[i * 3 + j]? = (tcells (l.getD i (0, 0, 0)))[j]?
  | [], i, j, h, _ => absurd h (by simp)
  | x :: l, 0, j, _, hj => by
      simp only [flatT, Nat.zero_mul, Nat.zero_add]
      rw [List.getElem?_append_left (by simpa [tcells] using hj)]
      rfl
  | x :: l, i + 1, j, h, hj => by
      simp only [flatT]
      rw [List.getElem?_append_right (by simp [tcells]; omega)]
      have e : (i + 1) * 3 + j - (tcells x).length = i * 3 + j := by simp [tcells]; omega
      rw [e, flatT_at l i j (by simpa using h) hj]
      rfl
set_option maxRecDepth 100000 in
theorem Try.info110 : (Try.prog.info? 110).map (fun i => (i.zero, i.size, i.bytes)) = some (some (.agg #[.int .i64 0, .int .i64 0, .int .i64 0]), 3, 24) := by kernel_rfl

/-- The two rows that are made. -/
structure Two (C : Nat) (w : World) (v u : Value) (L : List TxA) (T : List Tg) : Prop where
  x : w.ownsRow C 26 3 v L.length (flatX L)
  t : w.ownsRow C 110 3 u T.length (flatT T)
theorem two_nil (C : Nat) (w : World) : Two C w (.slice none 0 0) (.slice none 0 0) [] [] := ⟨World.ownsRow_nil _ _ _ _, World.ownsRow_nil _ _ _ _⟩
theorem far_kind {w : World} {C e e' s s' n n' : Nat} {v u : Value} {xs ys : List Value} (h : w.ownsRow C e s v n xs) (k : w.ownsRow C e' s' u n' ys) (hne : e ≠ e') : v.ownBlock = none ∨ v.ownBlock ≠ u.ownBlock := by
  cases hv : v.ownBlock with
  | none => exact .inl rfl
  | some g =>
    refine .inr fun e1 => ?_
    obtain ⟨c, fz, h1⟩ := Lib.ownsRow_kind h g hv
    obtain ⟨c', fz', h2⟩ := Lib.ownsRow_kind k g e1.symm
    rw [h1] at h2
    injection h2 with h2
    injection h2 with _ h2
    exact hne h2
theorem Two.below {C : Nat} {w w' : World} {v u : Value} {L : List TxA} {T : List Tg} (h : Two C w v u L T) (hb : Below w.heap.size w w') : Two C w' v u L T :=
  ⟨h.x.kept (grownBy_of_below hb none) (by cases hv : v.ownBlock <;> simp), h.t.kept (grownBy_of_below hb none) (by cases hv : u.ownBlock <;> simp)⟩

set_option maxRecDepth 100000 in
/-- A transaction more. -/
theorem wpList_append_two {W0 w : World} {ops : Array Oper} {rest : List Oper} {o : Oper} {a : Act} {Q : Exit → Act → World → Prop} (hgd : o.guard = none) (s x : Operand)
    (ho : o.op = .call { callee := .builtin .append, args := #[s, x], argTypes := #[37, 37] })
    (v u : Value) (L : List TxA) (T : List Tg) (y : TxA) (hs : a.eval s = v) (hown : Two W0.heap.size w v u L T)
    (ad : Addr) (c : Nat) (hx : a.eval x = .slice (some ad) 1 c) (hnews : Lies w ad (flatX [y]))
    (hsm : L.length ≤ 1000) (hbel : Below W0.heap.size W0 w)
    (h : ∀ v' w', Two W0.heap.size w' v' u (L ++ [y]) T → Below W0.heap.size W0 w' → wpList Try.prog ops Q rest (a.put o.dst v') w') :
    wpList Try.prog ops Q (o :: rest) a w := by
  obtain ⟨i, hi, hz, hsz, hby⟩ := info_parts Try.info26
  refine wpList_append_own_at w hgd s x 37 ho W0.heap.size 26 i _ 3 72 Try.underlying37 hi hz hsz hby rfl (by decide) v L.length (flatX L) hs hown.x ad 1 c (flatX [y]) hx rfl hnews (flatX_one [y]) (by unfold maxLen; omega) (by omega) hbel.size ?_
  intro v' w' h2 h3 _ h5
  refine h v' w' ⟨?_, ?_⟩ (Below.grown hbel h3 hbel.size (fun j hj => (hown.x.lt j hj).1))
  · rw [flatX_app, List.length_append]
    exact h2
  · exact hown.t.kept h3 (far_kind hown.t hown.x (by decide))

set_option maxRecDepth 100000 in
/-- A tag more. -/
theorem wpList_append_tag {W0 w : World} {ops : Array Oper} {rest : List Oper} {o : Oper} {a : Act} {Q : Exit → Act → World → Prop} (hgd : o.guard = none) (s x : Operand)
    (ho : o.op = .call { callee := .builtin .append, args := #[s, x], argTypes := #[106, 106] })
    (v u : Value) (L : List TxA) (T : List Tg) (y : Tg) (hs : a.eval s = u) (hown : Two W0.heap.size w v u L T)
    (ad : Addr) (c : Nat) (hx : a.eval x = .slice (some ad) 1 c) (hnews : Lies w ad (flatT [y]))
    (hsm : T.length ≤ 1000) (hbel : Below W0.heap.size W0 w)
    (h : ∀ u' w', Two W0.heap.size w' v u' L (T ++ [y]) → Below W0.heap.size W0 w' → wpList Try.prog ops Q rest (a.put o.dst u') w') :
    wpList Try.prog ops Q (o :: rest) a w := by
  obtain ⟨i, hi, hz, hsz, hby⟩ := info_parts Try.info110
  refine wpList_append_own_at w hgd s x 106 ho W0.heap.size 110 i _ 3 24 Try.underlying106 hi hz hsz hby rfl (by decide) u T.length (flatT T) hs hown.t ad 1 c (flatT [y]) hx rfl hnews (flatT_one [y]) (by unfold maxLen; omega) (by omega) hbel.size ?_
  intro v' w' h2 h3 _ h5
  refine h v' w' ⟨?_, ?_⟩ (Below.grown hbel h3 hbel.size (fun j hj => (hown.t.lt j hj).1))
  · exact hown.x.kept h3 (far_kind hown.x hown.t (by decide))
  · rw [flatT_app, List.length_append]
    exact h2
theorem lies_tag (w : World) (s e k n : Nat) (hn : n = w.heap.size) : Lies (w.alloc (.cells #[.int .i64 s, .int .i64 e, .int .i64 k] 110)) ⟨n, 0, none⟩ (flatT [(s, e, k)]) := by
  subst hn
  intro j u hj
  rw [add_none]
  match j, hj with
  | 0, hj => simp [flatT, tcells] at hj; subst hj; simp
  | 1, hj => simp [flatT, tcells] at hj; subst hj; simp
  | 2, hj => simp [flatT, tcells] at hj; subst hj; simp
  | j + 3, hj => simp [flatT, tcells] at hj

/-- What one site tells of an epoch. -/
def part (ss : List StA) (e s : Nat) : List TxA := if e < (ss.getD s st0).bs.length then ((ss.getD s st0).bs.getD e b0).l else []
def tgs (s e n : Nat) : List Tg := (List.range n).map (fun k => (s, e, k))
theorem tgs_len (s e n : Nat) : (tgs s e n).length = n := by simp [tgs]
theorem tgs_step (s e n k : Nat) (h : k < n) : (tgs s e n).take (k + 1) = (tgs s e n).take k ++ [(s, e, k)] := by
  rw [List.take_succ_eq_append_getElem (by simpa [tgs] using h)]
  simp [tgs]
def tagsX (es : List EvA) : List Tg := es.flatMap (fun x => tgs x.s x.e x.b.l.length)
theorem tagsX_app (p q : List EvA) : tagsX (p ++ q) = tagsX p ++ tagsX q := by simp [tagsX]
theorem tagsX_len : ∀ es : List EvA, (tagsX es).length = (mergedX es).length
  | [] => rfl
  | x :: t => by
    have h := tagsX_len t
    have e1 : tagsX (x :: t) = tgs x.s x.e x.b.l.length ++ tagsX t := rfl
    rw [e1, mergedX_cons, List.length_append, List.length_append, h, tgs_len]
theorem merged_row (ss : List StA) (e s : Nat) : mergedX (epTo ss e ++ rowTo ss e (s + 1)) = mergedX (epTo ss e ++ rowTo ss e s) ++ part ss e s := by
  rw [rowTo, ← List.append_assoc, mergedX_app]
  congr 1
  unfold part
  split
  · simp [mergedX]
  · rfl
theorem tags_row (ss : List StA) (e s : Nat) : tagsX (epTo ss e ++ rowTo ss e (s + 1)) = tagsX (epTo ss e ++ rowTo ss e s) ++ tgs s e (part ss e s).length := by
  rw [rowTo, ← List.append_assoc, tagsX_app]
  congr 1
  unfold part
  split
  · simp [tagsX]
  · rfl
theorem merged_le (ss : List StA) (e s : Nat) (he : e < 6) (hs : s < ss.length) : (mergedX (epTo ss e ++ rowTo ss e s)).length + (part ss e s).length ≤ (mergedX (evs ss)).length := by
  obtain ⟨t, ht⟩ := evs_part ss e (s + 1) he hs
  rw [← ht, mergedX_app (epTo ss e ++ rowTo ss e (s + 1)) t, merged_row, List.length_append, List.length_append]
  omega
/-- The tag that stands at n is what is sought. -/
theorem tags_seek : ∀ (es : List EvA) (n : Nat), n < (mergedX es).length → seek es n = some (((tagsX es).getD n (0, 0, 0)).1, ((tagsX es).getD n (0, 0, 0)).2.1, (((tagsX es).getD n (0, 0, 0)).2.2 : Int))
  | [], n, h => absurd h (by simp [mergedX])
  | x :: t, n, h => by
    have e1 : tagsX (x :: t) = tgs x.s x.e x.b.l.length ++ tagsX t := rfl
    by_cases c : n < x.b.l.length
    · have c' : (n : Int) < x.b.l.length := by omega
      have e2 : (tagsX (x :: t)).getD n (0, 0, 0) = (x.s, x.e, n) := by
        rw [e1, List.getD_eq_getElem?_getD, List.getElem?_append_left (by rw [tgs_len]; exact c)]
        simp [tgs, c]
      rw [e2, seek, if_pos c']
    · have c' : ¬ (n : Int) < x.b.l.length := by omega
      rw [mergedX_cons, List.length_append] at h
      have e2 : (tagsX (x :: t)).getD n (0, 0, 0) = (tagsX t).getD (n - x.b.l.length) (0, 0, 0) := by
        rw [e1, List.getD_eq_getElem?_getD, List.getElem?_append_right (by rw [tgs_len]; omega), tgs_len, List.getD_eq_getElem?_getD]
      rw [e2, seek, if_neg c']
      have e3 : (n : Int) - x.b.l.length = ((n - x.b.l.length : Nat) : Int) := by omega
      rw [e3]
      exact tags_seek t _ (by omega)
theorem seek_none : ∀ (es : List EvA) (n : Int), ((mergedX es).length : Int) ≤ n → seek es n = none
  | [], _, _ => rfl
  | x :: t, n, h => by
    rw [mergedX_cons, List.length_append] at h
    rw [seek, if_neg (by omega)]
    exact seek_none t _ (by omega)

/-- What is made. -/
def tagsOf (ss : List StA) : List Tg := if chkS ss = 0 then tagsX (evs ss) else []

/-- Each batch is short, if the count is. -/
def Few (ss : List StA) : Prop := tooManyV ss = false → ∀ b ∈ allB ss, b.l.length ≤ 8
theorem nz_part (xs ys : List Int) : firstNZ (xs ++ ys) = firstNZ (firstNZ xs :: ys) := by
  induction xs with
  | nil => simp [firstNZ]
  | cons x xs ih =>
    by_cases h : x = 0
    · rw [List.cons_append, firstNZ, if_pos h, ih]
      congr 1
      rw [firstNZ, if_pos h]
    · rw [List.cons_append, firstNZ, if_neg h]
      conv => rhs; rw [firstNZ, firstNZ, if_neg h, if_neg h]
theorem nz_flatB : ∀ bs : List BtA, (∀ b ∈ bs, b.l.length ≤ 8) → firstNZ (bs.map (fun b => chkL b.l)) = firstNZ ((flatB bs).map chkX)
  | [], _ => rfl
  | b :: t, h => by
    have h1 := h b (List.mem_cons_self)
    have e1 : chkL b.l = firstNZ (b.l.map chkX) := if_neg (by omega)
    have e2 : flatB (b :: t) = b.l ++ flatB t := rfl
    rw [e2, List.map_append, nz_part, List.map_cons, e1, firstNZ, nz_flatB t (fun c hc => h c (List.mem_cons_of_mem _ hc))]
    conv => rhs; rw [firstNZ]
theorem chkS_few {ss : List StA} (hF : Few ss) (h : tooManyV ss = false) : chkS ss = firstNZ ((allX ss).map chkX) := by
  unfold chkS
  rw [h]
  exact nz_flatB _ (hF h)
end Go.Proofs.Ytfogphljilgogaa
