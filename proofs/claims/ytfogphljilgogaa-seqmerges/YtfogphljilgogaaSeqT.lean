/-
  Batches of sites that came in, opened, each no greater than memory is: so their count does not wrap.
  Conditions: the form's own reach.
-/
import Derived.Test.YtfogphljilgogaaSeqS
import Derived.Test.YtfogphljilgogaaSeqM
import Derived.SizedLaws
import Derived.IntWalk
import Derived.WalkKit
import Derived.WalkSpells
import Derived.WalkLawsBesides
import Derived.ProofKit
import Derived.OpenShut
import Derived.ChangeOld
import Derived.Deep.Slices
import Derived.Deep.Strs
import Derived.Deep.RegionHeld3
import Derived.BigQuiet
import Derived.Lib.SmallJoins
namespace Go.Proofs.Ytfogphljilgogaa
open Go.ChangeShapes Go.WideShapes Go.ChangeAt Go.RowKit Go.Deep

theorem wsum_from (R : Nat) : ∀ (bs : List BtA) (t : Int), 0 ≤ t → (∀ b ∈ bs, b.l.length ≤ R) → t + bs.length * R ≤ 9223372036854775807 → bs.foldl (fun t b => wrap64 (t + b.l.length)) t = t + (flatB bs).length
  | [], t, _, _, _ => by simp [flatB]
  | b :: bs, t, h0, hR, hb => by
    have h1 := hR b (List.mem_cons_self)
    have hm : ((b :: bs).length : Int) * R = bs.length * R + R := by
      rw [List.length_cons, Int.natCast_succ, Int.add_mul, Int.one_mul]
    rw [hm] at hb
    have hp : (0 : Int) ≤ (bs.length : Int) * R := Int.mul_nonneg (by omega) (by omega)
    have e1 : wrap64 (t + b.l.length) = t + b.l.length := by unfold wrap64; omega
    rw [List.foldl_cons, e1, wsum_from R bs _ (by omega) (fun c hc => hR c (List.mem_cons_of_mem _ hc)) (by omega)]
    have e2 : flatB (b :: bs) = b.l ++ flatB bs := rfl
    rw [e2, List.length_append]
    omega
theorem allB_len : ∀ ss : List StA, (∀ s ∈ ss, s.bs.length ≤ 6) → (allB ss).length ≤ 6 * ss.length
  | [], _ => Nat.le_refl _
  | s :: ss, h => by
    have h1 := h s (List.mem_cons_self)
    have h2 := allB_len ss (fun c hc => h c (List.mem_cons_of_mem _ hc))
    have e : allB (s :: ss) = s.bs ++ allB ss := rfl
    rw [e, List.length_append, List.length_cons]
    omega
theorem flatB_mem_len : ∀ (bs : List BtA) (b : BtA), b ∈ bs → b.l.length ≤ (flatB bs).length
  | c :: bs, b, h => by
    have e : flatB (c :: bs) = c.l ++ flatB bs := rfl
    rw [e, List.length_append]
    rcases List.mem_cons.1 h with rfl | h
    · omega
    · have := flatB_mem_len bs b h
      omega
/-- No batch is long, if the count is not: the count does not wrap. -/
theorem few_of_reach {ss : List StA} (h : ∀ b ∈ allB ss, b.l.length ≤ reachBytes) : Few ss := by
  intro hT b hb
  unfold tooManyV at hT
  rw [Bool.or_eq_false_iff, Bool.or_eq_false_iff] at hT
  obtain ⟨⟨h3, h6⟩, h8⟩ := hT
  have h3' : ss.length ≤ 3 := by have := of_decide_eq_false h3; omega
  have h6' : ∀ s ∈ ss, s.bs.length ≤ 6 := fun s hs => by
    have h1 := List.any_eq_false.1 h6 s hs
    have : ¬ 6 < s.bs.length := fun q => h1 (decide_eq_true q)
    omega
  have h8' : ¬ (8 : Int) < wsum (allB ss) := of_decide_eq_false h8
  have hl := allB_len ss h6'
  have hw : wsum (allB ss) = 0 + (flatB (allB ss)).length := by
    refine wsum_from reachBytes (allB ss) 0 (Int.le_refl _) h ?_
    have hr : reachBytes = 140737488351232 := by decide
    rw [hr]
    have : ((allB ss).length : Int) ≤ 18 := by omega
    omega
  have := flatB_mem_len _ b hb
  omega

section
variable {H : Type} {enc : TypeId × Value → H} {w : World} {base : Nat} {held : Bool}
/-- Each part weighs no more than the whole may. -/
def Light (t : TypeId) (d : DataW H) : Prop := ∀ n ∈ d.weights Try.prog t, n ≤ reachBytes
theorem all_mem {P : Program} {e : TypeId} : ∀ {ds : List (DataW H)} {d : DataW H}, d ∈ ds → ∀ n ∈ d.weights P e, n ∈ DataW.weightsAll P e ds
  | c :: ds, d, h, n, hn => by
    rw [DataW.weightsAll, List.mem_append]
    rcases List.mem_cons.1 h with rfl | h
    · exact .inl hn
    · exact .inr (all_mem h n hn)
theorem light_elem {t e : TypeId} {elems spare : List (DataW H)} (hu : Try.prog.underlying t = some (.slice e)) (h : Light t (.slice elems spare)) : ∀ d ∈ elems, Light e d := fun d hd n hn => by
  refine h n ?_
  rw [DataW.weights]
  simp only [hu]
  exact List.mem_cons_of_mem _ (List.mem_append.2 (.inl (all_mem hd n hn)))
theorem light_len {t e : TypeId} {elems spare : List (DataW H)} (hu : Try.prog.underlying t = some (.slice e)) (h : Light t (.slice elems spare)) : (elems.length + spare.length) * Try.prog.bytesOf e ≤ reachBytes := by
  refine h _ ?_
  rw [DataW.weights]
  simp only [hu]
  exact List.mem_cons_self
set_option maxRecDepth 100000 in
theorem open_txs_w {n : Nat} {v : Value} {y : DataW H × List MemPlace} (h : DataW.trod enc Try.prog w base (fun _ => true) held n 37 [v] = some y) (hL : Light 37 y.1) : ∃ (a : Option Addr) (l : List TxA) (cap : Nat), v = .slice a l.length cap ∧ l.length ≤ maxLen ∧ l.length ≤ cap ∧ IsTxs w a l ∧ l.length ≤ reachBytes := by
  have b26 : Try.prog.bytesOf 26 = 72 := by kernel_rfl
  obtain ⟨ta, tl, tc, rfl, g1, g2, g3, _⟩ := open_txs h
  refine ⟨ta, tl, tc, rfl, g1, g2, g3, ?_⟩
  rcases open_slice Try.underlying37 h with ⟨hcs, _⟩ | ⟨a, len, cap, m, n', D, Pl, hcs, _, _, _, _, rfl, _⟩
  · simp at hcs
    rw [hcs.2.1]
    simp
  · simp at hcs
    have h1 := light_len Try.underlying37 hL
    rw [b26, List.length_map, List.length_range] at h1
    rw [hcs.2.1]
    omega
set_option maxRecDepth 100000 in
theorem open_bs_w {n : Nat} {v : Value} {y : DataW H × List MemPlace} (h : DataW.trod enc Try.prog w base (fun _ => true) held n 74 [v] = some y) (hL : Light 74 y.1) : ∃ (a : Option Addr) (bs : List BtA) (cap : Nat), v = .slice a bs.length cap ∧ bs.length ≤ maxLen ∧ IsBs w a bs ∧ ∀ b ∈ bs, b.l.length ≤ reachBytes := by
  have k37 : Try.prog.cellsOf 37 = 1 := by kernel_rfl
  rcases open_slice Try.underlying74 h with ⟨hcs, _⟩ | ⟨a, len, cap, m, n', D, Pl, hcs, _, hl, hm, hmm, rfl, hx⟩
  · simp at hcs
    exact ⟨none, [], 0, by simpa using hcs, by simp, fun i hi => absurd hi (by simp), fun b hb => by cases hb⟩
  · simp at hcs
    have hlm : len ≤ m := by rw [hmm]; split <;> omega
    have hLi : ∀ i, i < len → Light 37 (D i) := fun i hi => light_elem Try.underlying74 hL (D i) (List.mem_map.2 ⟨i, List.mem_range.2 hi, rfl⟩)
    rw [k37] at hx
    have : Inhabited BtA := ⟨b0⟩
    obtain ⟨f, hf⟩ := choose_lt (α := BtA) (p := fun i x => w.cell? ((a.add (i * 1)).add 0) = some (.slice x.a x.l.length x.c) ∧ IsTxs w x.a x.l ∧ x.l.length ≤ maxLen ∧ x.l.length ≤ x.c ∧ x.l.length ≤ reachBytes) (n := len) (fun i hi => by
      obtain ⟨cs', h1, h2⟩ := hx i (by omega)
      obtain ⟨_, hlen, hc⟩ := World.cells?_some h1
      match cs', hlen with
      | [c0], _ =>
        obtain ⟨ta, tl, tc, rfl, g1, g2, g3, g4⟩ := open_txs_w h2 (hLi i hi)
        exact ⟨⟨ta, tc, tl⟩, hc 0 (by omega), g3, g1, g2, g4⟩)
    obtain ⟨b, off, spot⟩ := a
    refine ⟨some ⟨b, off, spot⟩, (List.range len).map f, cap, by simpa using hcs, by simp; omega, fun i hi => ?_, fun c hc => ?_⟩
    · have hi' : i < len := by simpa using hi
      have hsp : spot = none := by
        have := World.cell?_spot (hf 0 (by omega)).1
        simpa [Addr.add] using this
      subst hsp
      obtain ⟨e0, e1, e2, e3, _⟩ := hf i (by omega)
      rw [add_add] at e0
      have eg : ((List.range len).map f).getD i b0 = f i := by simp [List.getD, hi']
      rw [eg]
      simp only [Nat.mul_one, Nat.add_zero] at e0
      exact ⟨b, off, rfl, World.block_lt_of_cell? w _ e0, e0, e1, e2, e3⟩
    · obtain ⟨i, hi, rfl⟩ := List.mem_map.1 hc
      exact (hf i (List.mem_range.1 hi)).2.2.2.2
set_option maxRecDepth 100000 in
theorem open_sts_w {n : Nat} {v : Value} {y : DataW H × List MemPlace} (h : DataW.trod enc Try.prog w base (fun _ => true) held n 67 [v] = some y) (hL : Light 67 y.1) : ∃ (a : Option Addr) (ss : List StA) (cap : Nat), v = .slice a ss.length cap ∧ ss.length ≤ maxLen ∧ IsSt w a ss ∧ ∀ b ∈ allB ss, b.l.length ≤ reachBytes := by
  have k74 : Try.prog.cellsOf 74 = 1 := by kernel_rfl
  rcases open_slice Try.underlying67 h with ⟨hcs, _⟩ | ⟨a, len, cap, m, n', D, Pl, hcs, _, hl, hm, hmm, rfl, hx⟩
  · simp at hcs
    exact ⟨none, [], 0, by simpa using hcs, by simp, fun i hi => absurd hi (by simp), fun b hb => by cases hb⟩
  · simp at hcs
    have hlm : len ≤ m := by rw [hmm]; split <;> omega
    have hLi : ∀ i, i < len → Light 74 (D i) := fun i hi => light_elem Try.underlying67 hL (D i) (List.mem_map.2 ⟨i, List.mem_range.2 hi, rfl⟩)
    rw [k74] at hx
    have : Inhabited StA := ⟨st0⟩
    obtain ⟨f, hf⟩ := choose_lt (α := StA) (p := fun i x => w.cell? ((a.add (i * 1)).add 0) = some (.slice x.a x.bs.length x.c) ∧ IsBs w x.a x.bs ∧ x.bs.length ≤ maxLen ∧ ∀ b ∈ x.bs, b.l.length ≤ reachBytes) (n := len) (fun i hi => by
      obtain ⟨cs', h1, h2⟩ := hx i (by omega)
      obtain ⟨_, hlen, hc⟩ := World.cells?_some h1
      match cs', hlen with
      | [c0], _ =>
        obtain ⟨ta, tl, tc, rfl, g1, g2, g3⟩ := open_bs_w h2 (hLi i hi)
        exact ⟨⟨ta, tc, tl⟩, hc 0 (by omega), g2, g1, g3⟩)
    obtain ⟨b, off, spot⟩ := a
    refine ⟨some ⟨b, off, spot⟩, (List.range len).map f, cap, by simpa using hcs, by simp; omega, fun i hi => ?_, fun c hc => ?_⟩
    · have hi' : i < len := by simpa using hi
      have hsp : spot = none := by
        have := World.cell?_spot (hf 0 (by omega)).1
        simpa [Addr.add] using this
      subst hsp
      obtain ⟨e0, e1, e2, _⟩ := hf i (by omega)
      rw [add_add] at e0
      have eg : ((List.range len).map f).getD i st0 = f i := by simp [List.getD, hi']
      rw [eg]
      simp only [Nat.mul_one, Nat.add_zero] at e0
      exact ⟨b, off, rfl, World.block_lt_of_cell? w _ e0, e0, e1, e2⟩
    · obtain ⟨s, hs, hc⟩ := List.mem_flatMap.1 hc
      obtain ⟨i, hi, rfl⟩ := List.mem_map.1 hs
      exact (hf i (List.mem_range.1 hi)).2.2.2 c hc
set_option maxRecDepth 100000 in
theorem open_q_w {b0 : Nat} {v : Value} {d : DataW H} {p : List MemPlace} (hv : Value.okWide Try.prog w .any b0 67 v) (h : DataW.Trod enc Try.prog w base (fun _ => true) held 67 v d p) (hL : Light 67 d) :
    ∃ (a : Option Addr) (ss : List StA) (cap : Nat), v = .slice a ss.length cap ∧ ss.length ≤ maxLen ∧ IsSt w a ss ∧ Few ss := by
  obtain ⟨za, zl, zc, rfl⟩ := okWide_slice Try.underlying67 hv
  obtain ⟨fuel, hf⟩ := h
  obtain ⟨a, ss, cap, h1, h2, h3, h4⟩ := open_sts_w (by simpa [Value.cells] using hf) hL
  exact ⟨a, ss, cap, h1, h2, h3, few_of_reach h4⟩
end
end Go.Proofs.Ytfogphljilgogaa
