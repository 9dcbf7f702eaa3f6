/-
  Results in a row that the call owns: what appending one more leaves; results that can be read.
  Conditions: those that each theorem states.
-/
import Derived.Test.YtcgpkonfneofdaaStoreD
import Derived.WalkKit
import Derived.WalkSpells
import Derived.WalkLawsBesides
import Derived.Defers
import Derived.Recover
import Derived.ProofKit
import Derived.Deep.RegionHeld
import Derived.Deep.RegionHeld3
import Derived.Deep.DeepCutAuto
import Derived.BigQuiet
import Derived.Maps.AppendAt
import Derived.Lib.SliceRun
namespace Go.Proofs.Ytcgpkonfneofdaa
open Go.RowKit

set_option maxRecDepth 100000 in
theorem Try.info40 : (Try.prog.info? 40).map (fun i => (i.zero, i.size, i.bytes)) = some (some (.agg #[.bool false, .slice none 0 0]), 2, 32) := by kernel_rfl

/-- A result, and where its values lie. -/
structure RsA where
  va : Option Addr
  vc : Nat
  d : Bool
  vs : List Int
def r0 : RsA := ⟨none, 0, false, []⟩
def RsA.told (r : RsA) : Bool × List Int := (r.d, r.vs)
def rcells (r : RsA) : List Value := [.bool r.d, .slice r.va r.vs.length r.vc]
def flatR : List RsA → List Value
  | [] => []
  | r :: rl => rcells r ++ flatR rl
set_option maxRecDepth 100000 in
theorem flatR_len : ∀ rl : List RsA, (flatR rl).length = rl.length * 2
  | [] => rfl
  | r :: rl => by simp [flatR, rcells, flatR_len rl]; omega
set_option maxRecDepth 100000 in
theorem flatR_app : ∀ (a b : List RsA), flatR (a ++ b) = flatR a ++ flatR b
  | [], _ => rfl
  | r :: a, b => by simp [flatR, flatR_app a b]
set_option maxRecDepth 100000 in
theorem flatR_one : ∀ (rl : List RsA), ∀ u ∈ flatR rl, u.oneCell' = true
  | [], u, h => by cases h
  | r :: rl, u, h => by
      simp only [flatR, List.mem_append] at h
      rcases h with h | h
      · simp only [rcells, List.mem_cons, List.not_mem_nil, or_false] at h
        rcases h with rfl | rfl <;> rfl
      · exact flatR_one rl u h
set_option maxRecDepth 100000 in
theorem flatR_at : ∀ (rl : List RsA) (i : Nat), i < rl.length → (flatR rl)[i * 2]? = some (.bool (rl.getD i r0).d) ∧ (flatR rl)[i * 2 + 1]? = some (.slice (rl.getD i r0).va (rl.getD i r0).vs.length (rl.getD i r0).vc)
  | [], i, h => absurd h (by simp)
  | r :: rl, 0, _ => by simp [flatR, rcells]
  | r :: rl, i + 1, h => by
      have := flatR_at rl i (by simpa using h)
      have e : flatR (r :: rl) = .bool r.d :: .slice r.va r.vs.length r.vc :: flatR rl := rfl
      rw [e]
      have e1 : (i + 1) * 2 = i * 2 + 1 + 1 := by omega
      rw [e1]
      simpa using this

/-- Results in a row of one's own from block C on, their values too, and none of these in the row's own block. -/
def ResRow (C : Nat) (w : World) (v : Value) (rl : List RsA) : Prop :=
  w.ownsRow C 40 2 v rl.length (flatR rl) ∧ ∀ r ∈ rl, IsAt C w.heap.size w r.va r.vs ∧ (r.vs ≠ [] → ∀ ad, r.va = some ad → v.ownBlock ≠ some ad.block)

set_option maxRecDepth 100000 in
theorem resRow_nil (C : Nat) (w : World) : ResRow C w (.slice none 0 0) [] := ⟨World.ownsRow_nil _ _ _ _, fun r hr => by cases hr⟩

set_option maxRecDepth 100000 in
theorem IsAt.keptBy {lo hi : Nat} {w w' : World} {row : Option Nat} {a : Option Addr} {zs : List Int} (h : IsAt lo hi w a zs) (hg : w.grownBy w' row) (hr : zs ≠ [] → ∀ ad, a = some ad → row ≠ some ad.block) : IsAt lo hi w' a zs := fun i hi' => by
  obtain ⟨b, off, ha, h1, h2, hc⟩ := h i hi'
  refine ⟨b, off, ha, h1, h2, hg.cell hc (fun e => ?_)⟩
  exact hr (fun e' => by rw [e'] at hi'; simp at hi') _ ha e.symm

set_option maxRecDepth 100000 in
theorem ResRow.kept {C : Nat} {w w' : World} {v : Value} {rl : List RsA} {row : Option Nat} (h : ResRow C w v rl) (hg : w.grownBy w' row) (hr : ∀ j, row = some j → j < C) : ResRow C w' v rl := by
  refine ⟨h.1.kept hg ?_, fun r hm => ?_⟩
  · cases ho : v.ownBlock with
    | none => exact .inl rfl
    | some j => exact .inr (fun e => by have := (h.1.lt j ho).1; have := hr j e.symm; omega)
  · obtain ⟨h1, h2⟩ := h.2 r hm
    refine ⟨(IsAt.widen (lo := C) (hi := w.heap.size) ?_ (Nat.le_refl _) hg.size), h2⟩
    exact fun i hi => by
      obtain ⟨b, off, ha, q1, q2, hc⟩ := h1 i hi
      exact ⟨b, off, ha, q1, q2, hg.cell hc (fun e => by have := hr b e.symm; omega)⟩
set_option maxRecDepth 100000 in
theorem ResRow.below {C : Nat} {w w' : World} {v : Value} {rl : List RsA} (h : ResRow C w v rl) (hb : Below w.heap.size w w') : ResRow C w' v rl := h.kept (grownBy_of_below hb none) (fun j e => by cases e)

set_option maxRecDepth 100000 in
theorem ResRow.push {C : Nat} {w w' : World} {v v' : Value} {rl : List RsA} {r : RsA} (h : ResRow C w v rl) (ho : w'.ownsRow C 40 2 v' (rl.length + 1) (flatR rl ++ rcells r)) (hg : w.grownBy w' v.ownBlock) (hv : v'.ownBlock = v.ownBlock ∨ v'.ownBlock = some w.heap.size) (hr : IsAt C w.heap.size w r.va r.vs) (hn : r.vs ≠ [] → ∀ ad, r.va = some ad → v.ownBlock ≠ some ad.block) : ResRow C w' v' (rl ++ [r]) := by
  refine ⟨by rw [flatR_app, List.length_append]; simpa [flatR] using ho, fun x hx => ?_⟩
  have key : IsAt C w.heap.size w x.va x.vs ∧ (x.vs ≠ [] → ∀ ad, x.va = some ad → v.ownBlock ≠ some ad.block) := by
    rcases List.mem_append.1 hx with hx | hx
    · exact h.2 x hx
    · simp only [List.mem_singleton] at hx
      subst hx
      exact ⟨hr, hn⟩
  refine ⟨(key.1.keptBy hg key.2).widen (Nat.le_refl _) hg.size, fun hne ad ha => ?_⟩
  rcases hv with e | e
  · rw [e]; exact key.2 hne ad ha
  · rw [e]
    obtain ⟨b, off, ha', _, h2, _⟩ := key.1 0 (List.length_pos_iff.2 hne)
    rw [ha] at ha'
    injection ha' with ha'
    subst ha'
    intro e'
    injection e' with e'
    simp at e'
    omega

/-- Results that can be read. -/
def IsRes (w : World) (a : Option Addr) (l : List (Bool × List Int)) : Prop :=
  ∀ i, i < l.length → ∃ b off va vc, a = some ⟨b, off, none⟩ ∧ b < w.heap.size ∧ w.cell? ⟨b, off + i * 2, none⟩ = some (.bool (l.getD i (false, [])).1) ∧ w.cell? ⟨b, off + i * 2 + 1, none⟩ = some (.slice va (l.getD i (false, [])).2.length vc) ∧ IsInts w va (l.getD i (false, [])).2
set_option maxRecDepth 100000 in
theorem IsRes.below {w w' : World} {a : Option Addr} {l : List (Bool × List Int)} (h : IsRes w a l) (hb : Below w.heap.size w w') : IsRes w' a l := fun i hi => by
  obtain ⟨b, off, va, vc, ha, hlt, c0, c1, hz⟩ := h i hi
  exact ⟨b, off, va, vc, ha, Nat.lt_of_lt_of_le hlt hb.size, ext_cell hb c0, ext_cell hb c1, hz.below hb⟩

set_option maxRecDepth 100000 in
theorem ResRow.res {C : Nat} {w : World} {v : Value} {rl : List RsA} (h : ResRow C w v rl) : ∃ a cap, v = .slice a (rl.map RsA.told).length cap ∧ IsRes w a (rl.map RsA.told) := by
  have hl : (rl.map RsA.told).length = rl.length := by simp
  rcases h.1.2 with ⟨rfl, h0⟩ | ⟨g, cap, cur, rfl, hb, hg, hnc, hcm, hcs, htake⟩
  · exact ⟨none, 0, by rw [hl, h0], fun i hi => by omega⟩
  · refine ⟨some ⟨g, 0, none⟩, cap, by rw [hl], fun i hi => ?_⟩
    rw [hl] at hi
    obtain ⟨e0, e1⟩ := flatR_at rl i hi
    have hc := fun (j : Nat) (u : Value) (hu : (flatR rl)[j]? = some u) => h.1.cells (g := g) rfl j u hu
    simp only [add_none, Nat.zero_add] at hc
    have eg : (rl.map RsA.told).getD i (false, []) = (rl.getD i r0).told := by simp [List.getD, hi]
    rw [eg]
    refine ⟨g, 0, (rl.getD i r0).va, (rl.getD i r0).vc, rfl, (Array.getElem?_eq_some_iff.1 hg).1, by simpa [RsA.told] using hc _ _ e0, by simpa [RsA.told] using hc _ _ e1, ?_⟩
    have hm : rl.getD i r0 ∈ rl := by simp [List.getD, hi]
    exact (h.2 _ hm).1.ints (Nat.le_refl _)

set_option maxRecDepth 100000 in
theorem ResRow.res2 {C : Nat} {w : World} {v : Value} {rl : List RsA} (h : ResRow C w v rl) : ∃ a cap, v = .slice a (rl.map RsA.told).length cap ∧ IsRes w a (rl.map RsA.told) ∧ (rl.map RsA.told).length ≤ cap := by
  obtain ⟨a, cap, hv, hr⟩ := h.res
  refine ⟨a, cap, hv, hr, ?_⟩
  have hl : (rl.map RsA.told).length = rl.length := by simp
  rw [hl] at hv ⊢
  rcases h.1.2 with ⟨hv2, h0⟩ | ⟨g, cap2, cur, hv2, hb, hg, hnc, hcm, hcs, htake⟩
  · omega
  · rw [hv] at hv2
    injection hv2 with _ _ e3
    omega
set_option maxRecDepth 100000 in
theorem news_rs (w : World) (d : Bool) (u : Value) (s : Nat) (hs : s = w.heap.size) : ∀ j x, [Value.bool d, u][j]? = some x → (w.alloc (.cells #[.bool d, u] 40)).cell? ((⟨s, 0, none⟩ : Addr).add j) = some x := by
  subst hs
  intro j x hj
  match j with
  | 0 => simp at hj; subst hj; simp [add_none]
  | 1 => simp at hj; subst hj; simp [add_none]
  | j + 2 => simp at hj

set_option maxRecDepth 100000 in
/-- An append of one result to results that the call owns, at a step of a region that draws its order. -/
theorem step_append_rs {w : World} {ops : Array Oper} {o : Oper} {a : Act} {K : Act → World → Prop} {Q : Exit → Act → World → Prop} {E : Prop} (hgd : o.guard = none) (s x : Operand)
    (ho : o.op = .call { callee := .builtin .append, args := #[s, x], argTypes := #[24, 24] })
    (C : Nat) (v : Value) (rl : List RsA) (r : RsA) (hs : a.eval s = v) (hown : ResRow C w v rl)
    (ad : Addr) (c : Nat) (hx : a.eval x = .slice (some ad) 1 c) (hnews : ∀ j u, (rcells r)[j]? = some u → w.cell? (ad.add j) = some u)
    (hr : IsAt C w.heap.size w r.va r.vs) (hn : r.vs ≠ [] → ∀ ad, r.va = some ad → v.ownBlock ≠ some ad.block)
    (hsm : rl.length ≤ 100) (hbase : C ≤ w.heap.size)
    (h : ∀ v' w', ResRow C w' v' (rl ++ [r]) → w.grownBy w' v.ownBlock → K (a.put o.dst v') w') :
    if Region.wanted o (yielded ops a.tmps) = true then Oper.wp Try.prog o a w K Q else E := by
  obtain ⟨i, hi, hz, hsz, hby⟩ := info_parts Try.info40
  have hw : Region.wanted o (yielded ops a.tmps) = true := by simp [Region.wanted, hgd]
  rw [if_pos hw]
  obtain ⟨v', w', hrun, h2, h3, _, h5⟩ := run_append_own_at (P := Try.prog) w C 24 o.type 40 i _ 2 32 Try.underlying24 hi hz hsz hby rfl (by decide) v rl.length (flatR rl) hown.1 ad 1 c (rcells r) rfl hnews (fun u hu => flatR_one [r] u (by simpa [flatR] using hu)) (by unfold maxLen; omega) (by omega) hbase
  unfold Oper.wp execOp
  simp only [ho, resolve, invoke, builtin, Sem.run_bind, Sem.run_pure, Result.andThen_ok, List.map_toArray, List.map_cons, List.map_nil, hs, hx, hrun]
  exact h v' w' (hown.push h2 h3 h5 hr hn) h3

set_option maxRecDepth 100000 in
/-- The same, at a plain region. -/
theorem wpList_append_rs {w : World} {ops : Array Oper} {rest : List Oper} {o : Oper} {a : Act} {Q : Exit → Act → World → Prop} (hgd : o.guard = none) (s x : Operand)
    (ho : o.op = .call { callee := .builtin .append, args := #[s, x], argTypes := #[24, 24] })
    (C : Nat) (v : Value) (rl : List RsA) (r : RsA) (hs : a.eval s = v) (hown : ResRow C w v rl)
    (ad : Addr) (c : Nat) (hx : a.eval x = .slice (some ad) 1 c) (hnews : ∀ j u, (rcells r)[j]? = some u → w.cell? (ad.add j) = some u)
    (hr : IsAt C w.heap.size w r.va r.vs) (hn : r.vs ≠ [] → ∀ ad, r.va = some ad → v.ownBlock ≠ some ad.block)
    (hsm : rl.length ≤ 100) (hbase : C ≤ w.heap.size)
    (h : ∀ v' w', ResRow C w' v' (rl ++ [r]) → w.grownBy w' v.ownBlock → wpList Try.prog ops Q rest (a.put o.dst v') w') :
    wpList Try.prog ops Q (o :: rest) a w := by
  obtain ⟨i, hi, hz, hsz, hby⟩ := info_parts Try.info40
  refine wpList_append_own_at w hgd s x 24 ho C 40 i _ 2 32 Try.underlying24 hi hz hsz hby rfl (by decide) v rl.length (flatR rl) hs hown.1 ad 1 c (rcells r) hx rfl hnews (fun u hu => flatR_one [r] u (by simpa [flatR] using hu)) (by unfold maxLen; omega) (by omega) hbase ?_
  intro v' w' h2 h3 _ h5
  exact h v' w' (hown.push h2 h3 h5 hr hn) h3

set_option maxRecDepth 100000 in
theorem clone8_own (zs : List Int) (ad : Addr) (zc : Nat) (w : World) (h4 : zs.length ≤ 8) (hz : IsInts w (some ad) zs) :
    Calls Try.prog 74 #[.slice (some ad) zs.length zc] w fun e w' => ∃ v, e = .returned v ∧ w'.ownsRow w.heap.size 3 1 v zs.length (zs.map (Value.int .i64)) ∧ Below w.heap.size w w' := by
  have q24 : ∀ (w : World) (a : Option Addr) (n c n' c' : Nat), (binOp .eql 22 (.slice a n c) (.slice none n' c')).run Try.prog w = .ok (.bool a.isNone) w := fun w a n c n' c' => Lib.run_eql_slice_nil w _ _ a n c n' c' Try.underlying22
  obtain ⟨i0, hi, hz0, hz1, hz2⟩ := info_parts Try.info3
  have hnews : ∀ (o : Obj) j u, (zs.map (Value.int .i64))[j]? = some u → (w.alloc o).cell? (ad.add j) = some u := by
    intro o j u hj
    have hlt : j < zs.length := by
      have := (List.getElem?_eq_some_iff.1 hj).1
      simpa using this
    obtain ⟨b, off, ha, hb, hc⟩ := hz j hlt
    injection ha with ha
    subst ha
    rw [add_none, World.cell?_alloc_lt _ _ _ hb, hc]
    simp [hlt] at hj
    simp [List.getD, hlt, hj]
  clear hz
  go_enter Try.func74, Try.ntmps74
  go_wp2_with (first
    | (at_builtin; refine wpList_append_own _ rfl _ _ 22 rfl w.heap.size 3 i0 (.int .i64 0) 1 8 Try.underlying22 hi hz0 hz1 hz2 rfl (by decide) _ 0 [] rfl (World.ownsRow_lit w #[] 0 (Nat.le_refl _) (by decide) rfl) ad zs.length zc (zs.map (Value.int .i64)) rfl (by simp) (hnews _) (ints_oneCell .i64 zs) (by unfold maxLen; omega) (by omega) (by simp) ?_; intro v' w1 hown' hgrow _)
    | go_in)
  have RB : Below w.heap.size w w1 := (grow_alloc (Below.refl _ _) _).grown hgrow (by simp) (fun j hj => by have hj' : some w.heap.size = some j := hj; injection hj' with hj'; exact Nat.le_of_eq hj')
  simp only [Nat.zero_add, List.nil_append] at hown'
  clear hgrow hnews
  go_wp2
  go_ret
  exact ⟨_, rfl, hown', RB⟩
end Go.Proofs.Ytcgpkonfneofdaa
