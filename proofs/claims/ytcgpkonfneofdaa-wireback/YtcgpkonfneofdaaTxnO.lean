/-
  Guards as rows of cells: appending a list of guards to a row that the call owns.
  Conditions: those that each theorem states.
-/
import Derived.Test.YtcgpkonfneofdaaTxnN
import Derived.Laws.AppendOwnNone
import Derived.WalkKit
import Derived.WalkSpells
import Derived.WalkLawsBesides
import Derived.Defers
import Derived.ProofKit
import Derived.Deep.RegionHeld
import Derived.Deep.RegionHeld3
import Derived.BigQuiet
namespace Go.Proofs.Ytcgpkonfneofdaa
open Go.RowKit

set_option maxRecDepth 100000 in
theorem Try.info101 : (Try.prog.info? 101).map (fun i => (i.zero, i.size, i.bytes)) = some (some (.agg #[.int .i64 0, .int .i64 0, .int .i64 0, .int .i64 0, .int .i64 0]), 5, 40) := by kernel_rfl

def gcells (g : Gd) : List Value := [.int .i64 g.k, .int .i64 g.ak, .int .i64 g.an, .int .i64 g.bk, .int .i64 g.bn]
def flat : List Gd → List Value
  | [] => []
  | g :: gs => gcells g ++ flat gs

set_option maxRecDepth 100000 in
theorem flat_len : ∀ gs : List Gd, (flat gs).length = gs.length * 5
  | [] => rfl
  | g :: gs => by simp [flat, gcells, flat_len gs]; omega
set_option maxRecDepth 100000 in
theorem flat_app : ∀ (gs hs : List Gd), flat (gs ++ hs) = flat gs ++ flat hs
  | [], _ => rfl
  | g :: gs, hs => by simp [flat, flat_app gs hs]
set_option maxRecDepth 100000 in
theorem flat_one : ∀ (gs : List Gd), ∀ u ∈ flat gs, u.oneCell' = true
  | [], u, h => by cases h
  | g :: gs, u, h => by
      simp only [flat, List.mem_append] at h
      rcases h with h | h
      · simp only [gcells, List.mem_cons, List.not_mem_nil, or_false] at h
        rcases h with rfl | rfl | rfl | rfl | rfl <;> rfl
      · exact flat_one gs u h
set_option maxRecDepth 100000 in
theorem flat_at : ∀ (gs : List Gd) (i j : Nat), i < gs.length → j < 5 → (flat gs)[i * 5 + j]? = (gcells (gs.getD i g0))[j]?
  | [], i, j, h, _ => absurd h (by simp)
  | g :: gs, 0, j, _, hj => by
      simp only [flat, Nat.zero_mul, Nat.zero_add]
      rw [List.getElem?_append_left (by simpa [gcells] using hj)]
      rfl
  | g :: gs, i + 1, j, h, hj => by
      simp only [flat]
      rw [List.getElem?_append_right (by simp [gcells]; omega)]
      have e : (i + 1) * 5 + j - (gcells g).length = i * 5 + j := by simp [gcells]; omega
      rw [e, flat_at gs i j (by simpa using h) hj]
      rfl

set_option maxRecDepth 100000 in
theorem news_of_gs {w : World} {ad : Addr} {gs : List Gd} (h : IsGs w (some ad) gs) : ∀ j u, (flat gs)[j]? = some u → w.cell? (ad.add j) = some u := by
  intro j u hj
  have hlt : j < gs.length * 5 := by rw [← flat_len]; exact (List.getElem?_eq_some_iff.1 hj).1
  have hi : j / 5 < gs.length := by omega
  have hr : j % 5 < 5 := Nat.mod_lt _ (by decide)
  have ej : j = j / 5 * 5 + j % 5 := by omega
  obtain ⟨b, off, ha, hb, c0, c1, c2, c3, c4⟩ := h (j / 5) hi
  injection ha with ha
  subst ha
  rw [ej, flat_at gs _ _ hi hr] at hj
  rw [add_none, ej]
  generalize j / 5 = i at *
  generalize j % 5 = r at *
  match r, hr with
  | 0, _ => simp [gcells] at hj; subst hj; simpa using c0
  | 1, _ => simp [gcells] at hj; subst hj; simpa [Nat.add_assoc] using c1
  | 2, _ => simp [gcells] at hj; subst hj; simpa [Nat.add_assoc] using c2
  | 3, _ => simp [gcells] at hj; subst hj; simpa [Nat.add_assoc] using c3
  | 4, _ => simp [gcells] at hj; subst hj; simpa [Nat.add_assoc] using c4

set_option maxRecDepth 100000 in
theorem gs_of_owns {w : World} {base : Nat} {v : Value} {n : Nat} {gs : List Gd} (h : w.ownsRow base 101 5 v n (flat gs)) : ∃ a cap, v = .slice a gs.length cap ∧ IsGs w a gs := by
  have hn : gs.length = n := by have := h.1; rw [flat_len] at this; omega
  rcases h.2 with ⟨rfl, h0⟩ | ⟨g, cap, cur, rfl, hb, hg, hnc, hcm, hcs, htake⟩
  · refine ⟨none, 0, by rw [hn, h0], fun i hi => ?_⟩
    omega
  · refine ⟨some ⟨g, 0, none⟩, cap, by rw [hn], fun i hi => ?_⟩
    have hc := fun (j : Nat) (hj : j < 5) (u : Value) (hu : (gcells (gs.getD i g0))[j]? = some u) => h.cells (g := g) rfl (i * 5 + j) u ((flat_at gs i j hi hj).trans hu)
    simp only [add_none, Nat.zero_add] at hc
    refine ⟨g, 0, rfl, (Array.getElem?_eq_some_iff.1 hg).1, ?_, ?_, ?_, ?_, ?_⟩
    · simpa using hc 0 (by omega) _ rfl
    · simpa using hc 1 (by omega) _ rfl
    · simpa using hc 2 (by omega) _ rfl
    · simpa using hc 3 (by omega) _ rfl
    · simpa using hc 4 (by omega) _ rfl

set_option maxRecDepth 100000 in
theorem IsGs.grown {w w' : World} {row : Option Nat} {a : Option Addr} {gs : List Gd} (h : IsGs w a gs) (hg : w.grownBy w' row) (hne : ∀ ad, a = some ad → some ad.block ≠ row) : IsGs w' a gs := by
  intro i hi
  obtain ⟨b, off, ha, hlt, h0, h1, h2, h3, h4⟩ := h i hi
  have hb : some b ≠ row := hne _ ha
  have far : ∀ j, w'.cell? ⟨b, j, none⟩ = w.cell? ⟨b, j, none⟩ := fun j => World.cell?_of_block (hg.block b hlt hb)
  refine ⟨b, off, ha, Nat.lt_of_lt_of_le hlt hg.size, ?_, ?_, ?_, ?_, ?_⟩ <;> (rw [far]; assumption)

set_option maxRecDepth 100000 in
theorem run_append_nil {P : Program} {w : World} (base : Nat) (t ty e : TypeId) (i : TypeInfo) (size : Nat) (ht : P.underlying t = some (.slice e)) (hi : P.info? e = some i)
    (v : Value) (n c : Nat) (xs : List Value) (hown : w.ownsRow base e size v n xs) :
    (Builtin.append_ #[t, t] ty #[v, .slice none 0 c]).run P w = .ok v w := by
  rcases hown.2 with ⟨rfl, rfl⟩ | ⟨g, cap, cur, rfl, _, _, hnc, _⟩
  · simp [Builtin.append_, run_underlying ht, sizeOf, typeInfo, hi, Builtin.lenOf, Builtin.firstCells]
  · simp [Builtin.append_, run_underlying ht, sizeOf, typeInfo, hi, Builtin.lenOf, Builtin.firstCells, hnc, storeCells]

set_option maxRecDepth 100000 in
/-- An append of guards to guards that the call owns, at a step of a region that draws its order. -/
theorem step_append_gs {w : World} {ops : Array Oper} {o : Oper} {a : Act} {K : Act → World → Prop} {Q : Exit → Act → World → Prop} {E : Prop} (hgd : o.guard = none) (s x : Operand)
    (ho : o.op = .call { callee := .builtin .append, args := #[s, x], argTypes := #[35, 35] })
    (base : Nat) (v : Value) (xs : List Gd) (hs : a.eval s = v) (hown : w.ownsRow base 101 5 v xs.length (flat xs))
    (src : Option Addr) (gs : List Gd) (c : Nat) (hx : a.eval x = .slice src gs.length c) (hg : IsGs w src gs)
    (hsm : xs.length + gs.length ≤ 100) (hbase : base ≤ w.heap.size)
    (h : ∀ v' w', w'.ownsRow base 101 5 v' (xs ++ gs).length (flat (xs ++ gs)) → w.grownBy w' v.ownBlock → (∀ j, v.ownBlock = some j → base ≤ j) → base ≤ w'.heap.size → K (a.put o.dst v') w') :
    if Region.wanted o (yielded ops a.tmps) = true then Oper.wp Try.prog o a w K Q else E := by
  obtain ⟨i, hi, hz, hsz, hby⟩ := info_parts Try.info101
  have hw : Region.wanted o (yielded ops a.tmps) = true := by simp [Region.wanted, hgd]
  rw [if_pos hw]
  rw [List.length_append, flat_app] at h
  unfold Oper.wp execOp
  cases src with
  | none =>
    have h0 : gs.length = 0 := by
      rcases Nat.eq_zero_or_pos gs.length with h0 | h0
      · exact h0
      · obtain ⟨_, _, ha, _⟩ := hg 0 h0; cases ha
    have hgs : gs = [] := List.eq_nil_of_length_eq_zero h0
    subst hgs
    have hr := run_append_nil (P := Try.prog) (w := w) base 35 o.type 101 i 5 Try.underlying35 hi v xs.length c (flat xs) hown
    simp only [List.length_nil] at hx
    simp only [ho, resolve, invoke, builtin, Sem.run_bind, Sem.run_pure, Result.andThen_ok, List.map_toArray, List.map_cons, List.map_nil, hs, hx, hr]
    exact h v w (by simpa [flat] using hown) ⟨rfl, rfl, rfl, Nat.le_refl _, fun _ _ _ => rfl⟩ (fun j hj => (hown.lt j hj).1) hbase
  | some ad =>
    obtain ⟨v', w', hr, h2, h3, _⟩ := run_append_own (P := Try.prog) w base 35 o.type 101 i _ 5 40 Try.underlying35 hi hz hsz hby rfl (by decide) v xs.length (flat xs) hown ad gs.length c (flat gs) (flat_len gs) (news_of_gs hg) (flat_one gs) (by unfold maxLen; omega) (by omega) hbase
    simp only [ho, resolve, invoke, builtin, Sem.run_bind, Sem.run_pure, Result.andThen_ok, List.map_toArray, List.map_cons, List.map_nil, hs, hx, hr]
    exact h v' w' h2 h3 (fun j hj => (hown.lt j hj).1) (Nat.le_trans hbase h3.size)

set_option maxRecDepth 100000 in
theorem own_empty5 (w : World) (s base : Nat) (hs : s = w.heap.size) (hb : base ≤ s) : (w.alloc (.cells #[] 101)).ownsRow base 101 5 (.slice (some ⟨s, 0, none⟩) 0 0) 0 [] := by
  subst hs
  exact World.ownsRow_lit w #[] 0 hb (by decide) rfl
end Go.Proofs.Ytcgpkonfneofdaa
