/-
  
  Conditions: those that each theorem states.
-/
import Derived.Test.YtebjkmknhpgemaaGreatUStoreD
set_option maxRecDepth 100000
namespace Go.Proofs.YtebjkmknhpgemaaGreat
open Go.RowKit
theorem Tryz.info116 : (Tryz.prog.info? 116).map (fun i => (i.zero, i.size, i.bytes)) = some (some (.agg #[.bool false, .slice none 0 0]), 2, 32) := by kernel_rfl
structure RsA where
 va : Option Addr
 vc : Nat
 d : Bool
 vs : List Int
def r0 : RsA := ⟨none, 0, false, []⟩
def RsA.told (r : RsA) : Bool × List Int := (r.d, r.vs)
def jA (r : RsA) : List Value := [.bool r.d, .slice r.va r.vs.length r.vc]
def eM : List RsA → List Value
 | [] => []
 | r :: rl => jA r ++ eM rl
theorem qE : ∀ (a b : List RsA), eM (a ++ b) = eM a ++ eM b
 | [], _ => rfl
 | r :: a, b => by simp [eM, qE a b]
theorem mK : ∀ (rl : List RsA), ∀ u ∈ eM rl, u.oneCell' = true
 | [], u, h => by cases h
 | r :: rl, u, h => by
   simp only [eM, List.mem_append] at h
   rcases h with h | h
   ·simp only [jA, List.mem_cons, List.not_mem_nil, or_false] at h
    rcases h with rfl | rfl <;> rfl
   ·exact mK rl u h
theorem flatR_at : ∀ (rl : List RsA) (i : Nat), i < rl.length → (eM rl)[i * 2]? = some (.bool (rl.getD i r0).d) ∧ (eM rl)[i * 2 + 1]? = some (.slice (rl.getD i r0).va (rl.getD i r0).vs.length (rl.getD i r0).vc)
 | [], i, h => absurd h (by simp)
 | r :: rl, 0, _ => by simp [eM, jA]
 | r :: rl, i + 1, h => by
   have := flatR_at rl i (by simpa using h)
   have e : eM (r :: rl) = .bool r.d :: .slice r.va r.vs.length r.vc :: eM rl := rfl
   rw [e]
   have e1 : (i + 1) * 2 = i * 2 + 1 + 1 := by omega
   rw [e1]
   simpa using this
def ResRow (C : Nat) (w : World) (v : Value) (rl : List RsA) : Prop :=
 w.ownsRow C 116 2 v rl.length (eM rl) ∧ ∀ r ∈ rl, IsAt C w.heap.size w r.va r.vs ∧ (r.vs ≠ [] → ∀ ad, r.va = some ad → v.ownBlock ≠ some ad.block)
theorem resRow_nil (C : Nat) (w : World) : ResRow C w (.slice none 0 0) [] := ⟨World.ownsRow_nil _ _ _ _, fun r hr => by cases hr⟩
theorem IsAt.keptBy {lo hi : Nat} {w w' : World} {row : Option Nat} {a : Option Addr} {zs : List Int} (h : IsAt lo hi w a zs) (hg : w.grownBy w' row) (hr : zs ≠ [] → ∀ ad, a = some ad → row ≠ some ad.block) : IsAt lo hi w' a zs := fun i hi' => by
 obtain ⟨b, off, ha, h1, h2, hc⟩ := h i hi'
 refine ⟨b, off, ha, h1, h2, hg.cell hc (fun e => ?_)⟩
 exact hr (fun e' => by rw [e'] at hi'; simp at hi') _ ha e.symm
theorem ResRow.kept {C : Nat} {w w' : World} {v : Value} {rl : List RsA} {row : Option Nat} (h : ResRow C w v rl) (hg : w.grownBy w' row) (hr : ∀ j, row = some j → j < C) : ResRow C w' v rl := by
 refine ⟨h.1.kept hg ?_, fun r hm => ?_⟩
 ·cases ho : v.ownBlock with
  | none => exact .inl rfl
  | some j => exact .inr (fun e => by have := (h.1.lt j ho).1; have := hr j e.symm; omega)
 ·obtain ⟨h1, h2⟩ := h.2 r hm
  refine ⟨(IsAt.widen (lo := C) (hi := w.heap.size) ?_ (Nat.le_refl _) hg.size), h2⟩
  exact fun i hi => by
   obtain ⟨b, off, ha, q1, q2, hc⟩ := h1 i hi
   exact ⟨b, off, ha, q1, q2, hg.cell hc (fun e => by have := hr b e.symm; omega)⟩
theorem ResRow.below {C : Nat} {w w' : World} {v : Value} {rl : List RsA} (h : ResRow C w v rl) (hb : Below w.heap.size w w') : ResRow C w' v rl := h.kept (cZ hb none) (fun j e => by cases e)
theorem ResRow.push {C : Nat} {w w' : World} {v v' : Value} {rl : List RsA} {r : RsA} (h : ResRow C w v rl) (ho : w'.ownsRow C 116 2 v' (rl.length + 1) (eM rl ++ jA r)) (hg : w.grownBy w' v.ownBlock) (hv : v'.ownBlock = v.ownBlock ∨ v'.ownBlock = some w.heap.size) (hr : IsAt C w.heap.size w r.va r.vs) (hn : r.vs ≠ [] → ∀ ad, r.va = some ad → v.ownBlock ≠ some ad.block) : ResRow C w' v' (rl ++ [r]) := by
 refine ⟨by rw [qE, List.length_append]; simpa [eM] using ho, fun x hx => ?_⟩
 have key : IsAt C w.heap.size w x.va x.vs ∧ (x.vs ≠ [] → ∀ ad, x.va = some ad → v.ownBlock ≠ some ad.block) := by
  rcases List.mem_append.1 hx with hx | hx
  ·exact h.2 x hx
  ·simp only [List.mem_singleton] at hx
   subst hx
   exact ⟨hr, hn⟩
 refine ⟨(key.1.keptBy hg key.2).widen (Nat.le_refl _) hg.size, fun hne ad ha => ?_⟩
 rcases hv with e | e
 ·rw [e]; exact key.2 hne ad ha
 ·rw [e]
  obtain ⟨b, off, ha', _, h2, _⟩ := key.1 0 (List.length_pos_iff.2 hne)
  rw [ha] at ha'
  injection ha' with ha'
  subst ha'
  intro e'
  injection e' with e'
  simp at e'
  omega
def IsRes (w : World) (a : Option Addr) (l : List (Bool × List Int)) : Prop :=
 ∀ i, i < l.length → ∃ b off va vc, a = some ⟨b, off, none⟩ ∧ b < w.heap.size ∧ w.cell? ⟨b, off + i * 2, none⟩ = some (.bool (l.getD i (false, [])).1) ∧ w.cell? ⟨b, off + i * 2 + 1, none⟩ = some (.slice va (l.getD i (false, [])).2.length vc) ∧ IsInts w va (l.getD i (false, [])).2
theorem ResRow.res {C : Nat} {w : World} {v : Value} {rl : List RsA} (h : ResRow C w v rl) : ∃ a cap, v = .slice a (rl.map RsA.told).length cap ∧ IsRes w a (rl.map RsA.told) := by
 have hl : (rl.map RsA.told).length = rl.length := by simp
 rcases h.1.2 with ⟨rfl, h0⟩ | ⟨g, cap, cur, rfl, hb, hg, hnc, hcm, hcs, htake⟩
 ·exact ⟨none, 0, by rw [hl, h0], fun i hi => by omega⟩
 ·refine ⟨some ⟨g, 0, none⟩, cap, by rw [hl], fun i hi => ?_⟩
  rw [hl] at hi
  obtain ⟨e0, e1⟩ := flatR_at rl i hi
  have hc := fun (j : Nat) (u : Value) (hu : (eM rl)[j]? = some u) => h.1.cells (g := g) rfl j u hu
  simp only [bS, Nat.zero_add] at hc
  have eg : (rl.map RsA.told).getD i (false, []) = (rl.getD i r0).told := by simp [List.getD, hi]
  rw [eg]
  refine ⟨g, 0, (rl.getD i r0).va, (rl.getD i r0).vc, rfl, (Array.getElem?_eq_some_iff.1 hg).1, by simpa [RsA.told] using hc _ _ e0, by simpa [RsA.told] using hc _ _ e1, ?_⟩
  have hm : rl.getD i r0 ∈ rl := by simp [List.getD, hi]
  exact (h.2 _ hm).1.ints (Nat.le_refl _)
theorem news_rs (w : World) (d : Bool) (u : Value) (s : Nat) (hs : s = w.heap.size) : ∀ j x, [Value.bool d, u][j]? = some x → (w.alloc (.cells #[.bool d, u] 116)).cell? ((⟨s, 0, none⟩ : Addr).add j) = some x := by
 subst hs
 intro j x hj
 match j with
 | 0 => simp at hj; subst hj; simp [bS]
 | 1 => simp at hj; subst hj; simp [bS]
 | j + 2 => simp at hj
theorem step_append_rs {w : World} {ops : Array Oper} {o : Oper} {a : Act} {K : Act → World → Prop} {Q : Exit → Act → World → Prop} {E : Prop} (hgd : o.guard = none) (s x : Operand)
  (ho : o.op = .call { callee := .builtin .append, args := #[s, x], argTypes := #[58, 58] })
  (C : Nat) (v : Value) (rl : List RsA) (r : RsA) (hs : a.eval s = v) (hown : ResRow C w v rl)
  (ad : Addr) (c : Nat) (hx : a.eval x = .slice (some ad) 1 c) (hnews : ∀ j u, (jA r)[j]? = some u → w.cell? (ad.add j) = some u)
  (hr : IsAt C w.heap.size w r.va r.vs) (hn : r.vs ≠ [] → ∀ ad, r.va = some ad → v.ownBlock ≠ some ad.block)
  (hsm : rl.length ≤ 100) (hbase : C ≤ w.heap.size)
  (h : ∀ v' w', ResRow C w' v' (rl ++ [r]) → w.grownBy w' v.ownBlock → K (a.put o.dst v') w') :
  if Region.wanted o (yielded ops a.tmps) = true then Oper.wp Tryz.prog o a w K Q else E := by
 obtain ⟨i, hi, hz, hsz, hby⟩ := info_parts Tryz.info116
 have hw : Region.wanted o (yielded ops a.tmps) = true := by simp [Region.wanted, hgd]
 rw [if_pos hw]
 obtain ⟨v', w', hrun, h2, h3, _, h5⟩ := run_append_own_at (P := Tryz.prog) w C 58 o.type 116 i _ 2 32 Tryz.underlying58 hi hz hsz hby rfl (by decide) v rl.length (eM rl) hown.1 ad 1 c (jA r) rfl hnews (fun u hu => mK [r] u (by simpa [eM] using hu)) (by unfold maxLen; omega) (by omega) hbase
 unfold Oper.wp execOp
 simp only [ho, resolve, invoke, builtin, Sem.run_bind, Sem.run_pure, Result.andThen_ok, List.map_toArray, List.map_cons, List.map_nil, hs, hx, hrun]
 exact h v' w' (hown.push h2 h3 h5 hr hn) h3
theorem iE {w : World} {ops : Array Oper} {rest : List Oper} {o : Oper} {a : Act} {Q : Exit → Act → World → Prop} (hgd : o.guard = none) (s x : Operand)
  (ho : o.op = .call { callee := .builtin .append, args := #[s, x], argTypes := #[58, 58] })
  (C : Nat) (v : Value) (rl : List RsA) (r : RsA) (hs : a.eval s = v) (hown : ResRow C w v rl)
  (ad : Addr) (c : Nat) (hx : a.eval x = .slice (some ad) 1 c) (hnews : ∀ j u, (jA r)[j]? = some u → w.cell? (ad.add j) = some u)
  (hr : IsAt C w.heap.size w r.va r.vs) (hn : r.vs ≠ [] → ∀ ad, r.va = some ad → v.ownBlock ≠ some ad.block)
  (hsm : rl.length ≤ 100) (hbase : C ≤ w.heap.size)
  (h : ∀ v' w', ResRow C w' v' (rl ++ [r]) → w.grownBy w' v.ownBlock → wpList Tryz.prog ops Q rest (a.put o.dst v') w') :
  wpList Tryz.prog ops Q (o :: rest) a w := by
 obtain ⟨i, hi, hz, hsz, hby⟩ := info_parts Tryz.info116
 refine wpList_append_own_at w hgd s x 58 ho C 116 i _ 2 32 Tryz.underlying58 hi hz hsz hby rfl (by decide) v rl.length (eM rl) hs hown.1 ad 1 c (jA r) hx rfl hnews (fun u hu => mK [r] u (by simpa [eM] using hu)) (by unfold maxLen; omega) (by omega) hbase ?_
 intro v' w' h2 h3 _ h5
 exact h v' w' (hown.push h2 h3 h5 hr hn) h3
end Go.Proofs.YtebjkmknhpgemaaGreat
