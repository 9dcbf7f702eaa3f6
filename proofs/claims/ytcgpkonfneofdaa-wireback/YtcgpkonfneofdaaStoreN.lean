/-
  Transactions and results as rows of cells: appending a list to a row that the call owns; a list without one of its transactions.
  Conditions: those that each theorem states.
-/
import Derived.Test.YtcgpkonfneofdaaStoreM
import Derived.Test.YtcgpkonfneofdaaStoreK
import Derived.Test.YtcgpkonfneofdaaSerV
import Derived.Test.YtcgpkonfneofdaaStoreL
import Derived.WalkKit
import Derived.WalkSpells
import Derived.WalkLawsBesides
import Derived.Defers
import Derived.ProofKit
import Derived.Deep.RegionHeld
import Derived.Deep.RegionHeld3
import Derived.BigQuiet
namespace Go.Proofs.Ytcgpkonfneofdaa
open Go.RowKit

set_option maxRecDepth 100000 in
theorem Try.info38 : (Try.prog.info? 38).map (fun i => (i.zero, i.size, i.bytes)) = some (some (.agg #[.slice none 0 0, .slice none 0 0, .slice none 0 0]), 3, 72) := by kernel_rfl

def xcells (x : TxA) : List Value := [.slice x.ra x.rs.length x.rc, .slice x.ga x.gs.length x.gc, .slice x.sa x.ss.length x.sc]
def flatX : List TxA → List Value
  | [] => []
  | x :: l => xcells x ++ flatX l
theorem flatX_len : ∀ l : List TxA, (flatX l).length = l.length * 3
  | [] => rfl
  | x :: l => by simp [flatX, xcells, flatX_len l]; omega
theorem flatX_app : ∀ (l m : List TxA), flatX (l ++ m) = flatX l ++ flatX m
  | [], _ => rfl
  | x :: l, m => by simp [flatX, flatX_app l m]
theorem flatX_one : ∀ (l : List TxA), ∀ u ∈ flatX l, u.oneCell' = true
  | [], u, h => by cases h
  | x :: l, u, h => by
      simp only [flatX, List.mem_append] at h
      rcases h with h | h
      · simp only [xcells, List.mem_cons, List.not_mem_nil, or_false] at h
        rcases h with rfl | rfl | rfl <;> rfl
      · exact flatX_one l u h
theorem flatX_at : ∀ (l : List TxA) (i j : Nat), i < l.length → j < 3 → (flatX l)[i * 3 + j]? = (xcells (l.getD i x0))[j]?
  | [], i, j, h, _ => absurd h (by simp)
  | x :: l, 0, j, _, hj => by
      simp only [flatX, Nat.zero_mul, Nat.zero_add]
      rw [List.getElem?_append_left (by simpa [xcells] using hj)]
      rfl
  | x :: l, i + 1, j, h, hj => by
      simp only [flatX]
      rw [List.getElem?_append_right (by simp [xcells]; omega)]
      have e : (i + 1) * 3 + j - (xcells x).length = i * 3 + j := by simp [xcells]; omega
      rw [e, flatX_at l i j (by simpa using h) hj]
      rfl

/-- What lies at an address. -/
def Lies (w : World) (ad : Addr) (xs : List Value) : Prop := ∀ j u, xs[j]? = some u → w.cell? (ad.add j) = some u
theorem lies_txs {w : World} {b off : Nat} {l : List TxA} (h : IsTxs w (some ⟨b, off, none⟩) l) : Lies w ⟨b, off, none⟩ (flatX l) := by
  intro j u hj
  have hlt : j < l.length * 3 := by rw [← flatX_len]; exact (List.getElem?_eq_some_iff.1 hj).1
  have hi : j / 3 < l.length := by omega
  have hr : j % 3 < 3 := Nat.mod_lt _ (by decide)
  have ej : j = j / 3 * 3 + j % 3 := by omega
  obtain ⟨b', off', ha, hb, c0, c1, c2, _⟩ := h (j / 3) hi
  injection ha with ha
  injection ha with e1 e2 _
  subst e1 e2
  rw [ej, flatX_at l _ _ hi hr] at hj
  rw [add_none, ej]
  generalize j / 3 = i at *
  generalize j % 3 = r at *
  match r, hr with
  | 0, _ => simp [xcells] at hj; subst hj; simpa using c0
  | 1, _ => simp [xcells] at hj; subst hj; simpa [Nat.add_assoc] using c1
  | 2, _ => simp [xcells] at hj; subst hj; simpa [Nat.add_assoc] using c2
theorem lies_nil (w : World) (ad : Addr) : Lies w ad [] := fun j u hj => by simp at hj
theorem Lies.below {w w' : World} {b off : Nat} {xs : List Value} (h : Lies w ⟨b, off, none⟩ xs) (hb : Below w.heap.size w w') : Lies w' ⟨b, off, none⟩ xs := by
  intro j u hj
  have := h j u hj
  rw [add_none] at this ⊢
  exact ext_cell hb this

theorem txs_of_owns {w : World} {base : Nat} {v : Value} {n : Nat} {l : List TxA} (h : w.ownsRow base 38 3 v n (flatX l)) (hx : ∀ x ∈ l, IsX w x) : ∃ a cap, v = .slice a l.length cap ∧ IsTxs w a l := by
  have hn : l.length = n := by have := h.1; rw [flatX_len] at this; omega
  rcases h.2 with ⟨rfl, h0⟩ | ⟨g, cap, cur, rfl, hb, hg, hnc, hcm, hcs, htake⟩
  · refine ⟨none, 0, by rw [hn, h0], fun i hi => ?_⟩
    omega
  · refine ⟨some ⟨g, 0, none⟩, cap, by rw [hn], fun i hi => ?_⟩
    have hc := fun (j : Nat) (hj : j < 3) (u : Value) (hu : (xcells (l.getD i x0))[j]? = some u) => h.cells (g := g) rfl (i * 3 + j) u ((flatX_at l i j hi hj).trans hu)
    simp only [add_none, Nat.zero_add] at hc
    refine ⟨g, 0, rfl, (Array.getElem?_eq_some_iff.1 hg).1, ?_, ?_, ?_, ?_⟩
    · simpa using hc 0 (by omega) _ rfl
    · simpa using hc 1 (by omega) _ rfl
    · simpa using hc 2 (by omega) _ rfl
    · exact hx _ (by simp [List.getD, hi])

/-- An append of transactions to transactions that the call owns, at a step of a region that draws its order. -/
theorem step_append_xs {w : World} {ops : Array Oper} {o : Oper} {a : Act} {K : Act → World → Prop} {Q : Exit → Act → World → Prop} {E : Prop} (hgd : o.guard = none) (s x : Operand)
    (ho : o.op = .call { callee := .builtin .append, args := #[s, x], argTypes := #[23, 23] })
    (base : Nat) (v : Value) (xs : List TxA) (hs : a.eval s = v) (hown : w.ownsRow base 38 3 v xs.length (flatX xs))
    (ad : Addr) (ys : List TxA) (m c : Nat) (hx : a.eval x = .slice (some ad) m c) (hm : ys.length = m) (hnews : Lies w ad (flatX ys))
    (hsm : xs.length + ys.length ≤ 100) (W0 : World) (hbel : Below W0.heap.size W0 w) (hbs : base = W0.heap.size)
    (h : ∀ v' w', w'.ownsRow base 38 3 v' (xs ++ ys).length (flatX (xs ++ ys)) → Below W0.heap.size W0 w' → K (a.put o.dst v') w') :
    if Region.wanted o (yielded ops a.tmps) = true then Oper.wp Try.prog o a w K Q else E := by
  obtain ⟨i, hi, hz, hsz, hby⟩ := info_parts Try.info38
  have hw : Region.wanted o (yielded ops a.tmps) = true := by simp [Region.wanted, hgd]
  rw [if_pos hw]
  rw [List.length_append, flatX_app] at h
  subst hm
  unfold Oper.wp execOp
  obtain ⟨v', w', hr, h2, h3, _⟩ := run_append_own (P := Try.prog) w base 23 o.type 38 i _ 3 72 Try.underlying23 hi hz hsz hby rfl (by decide) v xs.length (flatX xs) hown ad ys.length c (flatX ys) (flatX_len ys) hnews (flatX_one ys) (by unfold maxLen; omega) (by omega) (hbs ▸ hbel.size)
  simp only [ho, resolve, invoke, builtin, Sem.run_bind, Sem.run_pure, Result.andThen_ok, List.map_toArray, List.map_cons, List.map_nil, hs, hx, hr]
  exact h v' w' h2 (Below.grown hbel h3 hbel.size (fun j hj => hbs ▸ (hown.lt j hj).1))

theorem own_empty3 (w : World) (s base : Nat) (hs : s = w.heap.size) (hb : base ≤ s) : (w.alloc (.cells #[] 38)).ownsRow base 38 3 (.slice (some ⟨s, 0, none⟩) 0 0) 0 [] := by
  subst hs
  exact World.ownsRow_lit w #[] 0 hb (by decide) rfl

/-- A row of results whose values lie anywhere. -/
theorem res_of_owns {w : World} {base : Nat} {v : Value} {n : Nat} {rl : List RsA} (h : w.ownsRow base 40 2 v n (flatR rl)) (hx : ∀ r ∈ rl, IsInts w r.va r.vs) : ∃ a cap, v = .slice a (rl.map RsA.told).length cap ∧ IsRes w a (rl.map RsA.told) := by
  have hl : (rl.map RsA.told).length = rl.length := by simp
  have hn : rl.length = n := by have := h.1; rw [flatR_len] at this; omega
  rcases h.2 with ⟨rfl, h0⟩ | ⟨g, cap, cur, rfl, hb, hg, hnc, hcm, hcs, htake⟩
  · exact ⟨none, 0, by rw [hl, hn, h0], fun i hi => by omega⟩
  · refine ⟨some ⟨g, 0, none⟩, cap, by rw [hl, hn], fun i hi => ?_⟩
    rw [hl] at hi
    obtain ⟨e0, e1⟩ := flatR_at rl i hi
    have hc := fun (j : Nat) (u : Value) (hu : (flatR rl)[j]? = some u) => h.cells (g := g) rfl j u hu
    simp only [add_none, Nat.zero_add] at hc
    have eg : (rl.map RsA.told).getD i (false, []) = (rl.getD i r0).told := by simp [List.getD, hi]
    rw [eg]
    refine ⟨g, 0, (rl.getD i r0).va, (rl.getD i r0).vc, rfl, (Array.getElem?_eq_some_iff.1 hg).1, by simpa [RsA.told] using hc _ _ e0, by simpa [RsA.told] using hc _ _ e1, ?_⟩
    exact hx _ (by simp [List.getD, hi])

/-- The same with results. -/
theorem step_append_res {w : World} {ops : Array Oper} {o : Oper} {a : Act} {K : Act → World → Prop} {Q : Exit → Act → World → Prop} {E : Prop} (s x : Operand)
    (ho : o.op = .call { callee := .builtin .append, args := #[s, x], argTypes := #[24, 24] }) (hw : Region.wanted o (yielded ops a.tmps) = true)
    (base : Nat) (v : Value) (xs : List RsA) (hs : a.eval s = v) (hown : w.ownsRow base 40 2 v xs.length (flatR xs))
    (ad : Addr) (ys : List RsA) (m c : Nat) (hx : a.eval x = .slice (some ad) m c) (hm : ys.length = m) (hnews : Lies w ad (flatR ys))
    (hsm : xs.length + ys.length ≤ 100) (W0 : World) (hbel : Below W0.heap.size W0 w) (hbs : base = W0.heap.size)
    (h : ∀ v' w', w'.ownsRow base 40 2 v' (xs ++ ys).length (flatR (xs ++ ys)) → Below W0.heap.size W0 w' → K (a.put o.dst v') w') :
    if Region.wanted o (yielded ops a.tmps) = true then Oper.wp Try.prog o a w K Q else E := by
  obtain ⟨i, hi, hz, hsz, hby⟩ := info_parts Try.info40
  rw [if_pos hw]
  rw [List.length_append, flatR_app] at h
  subst hm
  unfold Oper.wp execOp
  obtain ⟨v', w', hr, h2, h3, _⟩ := run_append_own (P := Try.prog) w base 24 o.type 40 i _ 2 32 Try.underlying24 hi hz hsz hby rfl (by decide) v xs.length (flatR xs) hown ad ys.length c (flatR ys) (flatR_len ys) hnews (flatR_one ys) (by unfold maxLen; omega) (by omega) (hbs ▸ hbel.size)
  simp only [ho, resolve, invoke, builtin, Sem.run_bind, Sem.run_pure, Result.andThen_ok, List.map_toArray, List.map_cons, List.map_nil, hs, hx, hr]
  exact h v' w' h2 (Below.grown hbel h3 hbel.size (fun j hj => hbs ▸ (hown.lt j hj).1))

theorem own_empty2 (w : World) (s base : Nat) (hs : s = w.heap.size) (hb : base ≤ s) : (w.alloc (.cells #[] 40)).ownsRow base 40 2 (.slice (some ⟨s, 0, none⟩) 0 0) 0 [] := by
  subst hs
  exact World.ownsRow_lit w #[] 0 hb (by decide) rfl

theorem flatR_part {w : World} {b : Nat} : ∀ (rl : List RsA) (k off : Nat), Lies w ⟨b, off, none⟩ (flatR rl) → Lies w ⟨b, off, none⟩ (flatR (rl.take k)) ∧ Lies w ⟨b, off + k * 2, none⟩ (flatR (rl.drop k)) := by
  intro rl k off h
  by_cases hk : k ≤ rl.length
  · have e : flatR rl = flatR (rl.take k) ++ flatR (rl.drop k) := by rw [← flatR_app, List.take_append_drop]
    have e2 : (flatR (rl.take k)).length = k * 2 := by rw [flatR_len, List.length_take, Nat.min_eq_left hk]
    constructor
    · intro j u hj
      refine h j u ?_
      rw [e, List.getElem?_append_left (List.getElem?_eq_some_iff.1 hj).1]
      exact hj
    · intro j u hj
      have := h (k * 2 + j) u (by rw [e, List.getElem?_append_right (by omega), e2]; simpa using hj)
      rw [add_none] at this ⊢
      rw [Nat.add_assoc]
      exact this
  · rw [List.take_of_length_le (by omega), List.drop_eq_nil_of_le (by omega)]
    exact ⟨h, lies_nil _ _⟩

theorem lies_row {w : World} {base : Nat} {g n n' cap : Nat} {xs : List Value} (h : w.ownsRow base 40 2 (.slice (some ⟨g, 0, none⟩) n' cap) n xs) : Lies w ⟨g, 0, none⟩ xs := fun j u hj => h.cells (g := g) rfl j u hj

/-- Who is not done changes nothing. -/
theorem ser_less (s : List Int) (l : List TxA) (k : Nat) (hk : k < l.length) (hd : ((serRes s l).getD k (false, [])).1 = false) :
    serEnd s (l.take k ++ l.drop (k + 1)) = serEnd s l ∧ serRes s (l.take k ++ l.drop (k + 1)) = (serRes s l).take k ++ (serRes s l).drop (k + 1) := by
  have e : l = l.take k ++ (l.getD k x0 :: l.drop (k + 1)) := by
    rw [← drop_get l k x0 hk, List.take_append_drop]
  rw [serRes_at s l k hk] at hd
  have hi := aEnd_idle _ _ hd
  have e1 : serEnd s l = serEnd (serEnd s (l.take k)) (l.drop (k + 1)) := by
    conv => lhs; rw [e]
    rw [serEnd_app, serEnd, hi]
  have hL : (serRes s (l.take k)).length = k := by rw [serRes_len, List.length_take]; omega
  have e2 : serRes s l = serRes s (l.take k) ++ ((aDone (serEnd s (l.take k)) (l.getD k x0), aVals (serEnd s (l.take k)) (l.getD k x0)) :: serRes (serEnd s (l.take k)) (l.drop (k + 1))) := by
    conv => lhs; rw [e]
    rw [serRes_app, serRes, hi]
  constructor
  · rw [serEnd_app, e1]
  · rw [serRes_app, e2, List.take_left' hL]
    congr 1
    have e3 : k + 1 - (serRes s (l.take k)).length = 1 := by omega
    have e4 : (serRes s (l.take k)).drop (k + 1) = [] := List.drop_eq_nil_of_le (by omega)
    rw [List.drop_append, e4, e3]
    rfl

theorem sameStore (a a' : Option Addr) (c c' : Nat) (E : List Int) (h8 : E.length = 8) : ∀ w', IsInts w' a E → IsInts w' a' E → Calls Try.prog 12 #[.slice a 8 c, .slice a' 8 c'] w' fun e w'' => e = .returned (.bool true) ∧ Below w'.heap.size w' w'' := fun w' q1 q2 => by
  have h := sameInts_any E E a a' c c' w' (by rw [h8]; decide) q1 q2
  rw [h8] at h
  exact h.mono fun e w'' ⟨h1, h2⟩ => ⟨by rw [h1]; simp, h2⟩
theorem vals_few {s : List Int} {l : List TxA} (hE : serE s l = 0) : ∀ r ∈ serRes s l, r.2.length ≤ 100 := by
  have h := sRes_vals s l
  have e : sRes s l = serRes s l := if_pos hE
  rw [e] at h
  exact h
theorem hid_in {p : Prop} (h : p) : Hid p := h
end Go.Proofs.Ytcgpkonfneofdaa
