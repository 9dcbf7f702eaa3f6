/-
  
  Conditions: those that each theorem states.
-/
import Derived.Test.YtcgpkonfneofdaaGreatSHallB
import Derived.Test.YtcgpkonfneofdaaGreatSStoreD
set_option maxRecDepth 100000
namespace Go.Proofs.YtcgpkonfneofdaaGreat
open Go.RowKit
theorem Tryz.info41 : (Tryz.prog.info? 41).map (fun i => (i.zero, i.size, i.bytes)) = some (some (.agg #[.bool false, .slice none 0 0]), 2, 32) := by kernel_rfl
structure RsA where
 va : Option Addr
 vc : Nat
 d : Bool
 vs : List Int
def r0 : RsA := ⟨none, 0, false, []⟩
def RsA.told (r : RsA) : Bool × List Int := (r.d, r.vs)
def rcells (r : RsA) : List Value := [.bool r.d, .slice r.va r.vs.length r.vc]
def flatR : List RsA → List Value
 | [] => []
 | r :: rl => rcells r ++ flatR rl
theorem flatR_len : ∀ rl : List RsA, (flatR rl).length = rl.length * 2
 | [] => rfl
 | r :: rl => by simp [flatR, rcells, flatR_len rl]; omega
theorem flatR_app : ∀ (a b : List RsA), flatR (a ++ b) = flatR a ++ flatR b
 | [], _ => rfl
 | r :: a, b => by simp [flatR, flatR_app a b]
theorem flatR_one : ∀ (rl : List RsA), ∀ u ∈ flatR rl, u.oneCell' = true
 | [], u, h => by cases h
 | r :: rl, u, h => by
   simp only [flatR, List.mem_append] at h
   rcases h with h | h
   ·simp only [rcells, List.mem_cons, List.not_mem_nil, or_false] at h
    rcases h with rfl | rfl <;> rfl
   ·exact flatR_one rl u h
theorem flatR_at : ∀ (rl : List RsA) (i : Nat), i < rl.length → (flatR rl)[i * 2]? = some (.bool (rl.getD i r0).d) ∧ (flatR rl)[i * 2 + 1]? = some (.slice (rl.getD i r0).va (rl.getD i r0).vs.length (rl.getD i r0).vc)
 | [], i, h => absurd h (by simp)
 | r :: rl, 0, _ => by simp [flatR, rcells]
 | r :: rl, i + 1, h => by
   have := flatR_at rl i (by simpa using h)
   have e : flatR (r :: rl) = .bool r.d :: .slice r.va r.vs.length r.vc :: flatR rl := rfl
   rw [e]
   have e1 : (i + 1) * 2 = i * 2 + 1 + 1 := by omega
   rw [e1]
   simpa using this
def ResRow (C : Nat) (w : World) (v : Value) (rl : List RsA) : Prop :=
 w.ownsRow C 41 2 v rl.length (flatR rl) ∧ ∀ r ∈ rl, IsAt C w.heap.size w r.va r.vs ∧ (r.vs ≠ [] → ∀ ad, r.va = some ad → v.ownBlock ≠ some ad.block)
theorem resRow_nil (C : Nat) (w : World) : ResRow C w (.slice none 0 0) [] := ⟨World.ownsRow_nil _ _ _ _, fun r hr => by cases hr⟩
theorem IsAt.keptBy {lo hi : Nat} {w w' : World} {row : Option Nat} {a : Option Addr} {zs : List Int} (h : IsAt lo hi w a zs) (hg : w.grownBy w' row) (hr : zs ≠ [] → ∀ ad, a = some ad → row ≠ some ad.block) : IsAt lo hi w' a zs := fun i hi' => by
 obtain ⟨b, off, ha, h1, h2, hc⟩ := h i hi'
 refine ⟨b, off, ha, h1, h2, hg.cell hc (fun e => ?_)⟩
 exact hr (fun e' => by rw [e'] at hi'; simp at hi') _ ha e.symm
theorem ResRow.kept {C : Nat} {w w' : World} {v : Value} {rl : List RsA} {row : Option Nat} (h : ResRow C w v rl) (hg : w.grownBy w' row) (hr : ∀ j, row = some j → j < C) : ResRow C w' v rl := by
 refine ⟨h.1.kept hg ?_, fun r hm => ?_⟩
 ·cases ho : v.ownBlock with
  | none => exact .inl rfl
  | some j => exact .inr (fun e => by have := (h.1.lt j ho).1; have := hr j e.symm; omega)
 ·obtain ⟨h1, h2⟩ := h.2 r hm
  refine ⟨(IsAt.widen (lo := C) (hi := w.heap.size) ?_ (Nat.le_refl _) hg.size), h2⟩
  exact fun i hi => by
   obtain ⟨b, off, ha, q1, q2, hc⟩ := h1 i hi
   exact ⟨b, off, ha, q1, q2, hg.cell hc (fun e => by have := hr b e.symm; omega)⟩
theorem ResRow.below {C : Nat} {w w' : World} {v : Value} {rl : List RsA} (h : ResRow C w v rl) (hb : Below w.heap.size w w') : ResRow C w' v rl := h.kept (grownBy_of_below hb none) (fun j e => by cases e)
theorem ResRow.push {C : Nat} {w w' : World} {v v' : Value} {rl : List RsA} {r : RsA} (h : ResRow C w v rl) (ho : w'.ownsRow C 41 2 v' (rl.length + 1) (flatR rl ++ rcells r)) (hg : w.grownBy w' v.ownBlock) (hv : v'.ownBlock = v.ownBlock ∨ v'.ownBlock = some w.heap.size) (hr : IsAt C w.heap.size w r.va r.vs) (hn : r.vs ≠ [] → ∀ ad, r.va = some ad → v.ownBlock ≠ some ad.block) : ResRow C w' v' (rl ++ [r]) := by
 refine ⟨by rw [flatR_app, List.length_append]; simpa [flatR] using ho, fun x hx => ?_⟩
 have key : IsAt C w.heap.size w x.va x.vs ∧ (x.vs ≠ [] → ∀ ad, x.va = some ad → v.ownBlock ≠ some ad.block) := by
  rcases List.mem_append.1 hx with hx | hx
  ·exact h.2 x hx
  ·simp only [List.mem_singleton] at hx
   subst hx
   exact ⟨hr, hn⟩
 refine ⟨(key.1.keptBy hg key.2).widen (Nat.le_refl _) hg.size, fun hne ad ha => ?_⟩
 rcases hv with e | e
 ·rw [e]; exact key.2 hne ad ha
 ·rw [e]
  obtain ⟨b, off, ha', _, h2, _⟩ := key.1 0 (List.length_pos_iff.2 hne)
  rw [ha] at ha'
  injection ha' with ha'
  subst ha'
  intro e'
  injection e' with e'
  simp at e'
  omega
def IsRes (w : World) (a : Option Addr) (l : List (Bool × List Int)) : Prop :=
 ∀ i, i < l.length → ∃ b off va vc, a = some ⟨b, off, none⟩ ∧ b < w.heap.size ∧ w.cell? ⟨b, off + i * 2, none⟩ = some (.bool (l.getD i (false, [])).1) ∧ w.cell? ⟨b, off + i * 2 + 1, none⟩ = some (.slice va (l.getD i (false, [])).2.length vc) ∧ IsInts w va (l.getD i (false, [])).2
theorem IsRes.below {w w' : World} {a : Option Addr} {l : List (Bool × List Int)} (h : IsRes w a l) (hb : Below w.heap.size w w') : IsRes w' a l := fun i hi => by
 obtain ⟨b, off, va, vc, ha, hlt, c0, c1, hz⟩ := h i hi
 exact ⟨b, off, va, vc, ha, Nat.lt_of_lt_of_le hlt hb.size, ext_cell hb c0, ext_cell hb c1, hz.below hb⟩
theorem ResRow.res {C : Nat} {w : World} {v : Value} {rl : List RsA} (h : ResRow C w v rl) : ∃ a cap, v = .slice a (rl.map RsA.told).length cap ∧ IsRes w a (rl.map RsA.told) := by
 have hl : (rl.map RsA.told).length = rl.length := by simp
 rcases h.1.2 with ⟨rfl, h0⟩ | ⟨g, cap, cur, rfl, hb, hg, hnc, hcm, hcs, htake⟩
 ·exact ⟨none, 0, by rw [hl, h0], fun i hi => by omega⟩
 ·refine ⟨some ⟨g, 0, none⟩, cap, by rw [hl], fun i hi => ?_⟩
  rw [hl] at hi
  obtain ⟨e0, e1⟩ := flatR_at rl i hi
  have hc := fun (j : Nat) (u : Value) (hu : (flatR rl)[j]? = some u) => h.1.cells (g := g) rfl j u hu
  simp only [add_none, Nat.zero_add] at hc
  have eg : (rl.map RsA.told).getD i (false, []) = (rl.getD i r0).told := by simp [List.getD, hi]
  rw [eg]
  refine ⟨g, 0, (rl.getD i r0).va, (rl.getD i r0).vc, rfl, (Array.getElem?_eq_some_iff.1 hg).1, by simpa [RsA.told] using hc _ _ e0, by simpa [RsA.told] using hc _ _ e1, ?_⟩
  have hm : rl.getD i r0 ∈ rl := by simp [List.getD, hi]
  exact (h.2 _ hm).1.ints (Nat.le_refl _)
theorem news_rs (w : World) (d : Bool) (u : Value) (s : Nat) (hs : s = w.heap.size) : ∀ j x, [Value.bool d, u][j]? = some x → (w.alloc (.cells #[.bool d, u] 41)).cell? ((⟨s, 0, none⟩ : Addr).add j) = some x := by
 subst hs
 intro j x hj
 match j with
 | 0 => simp at hj; subst hj; simp [add_none]
 | 1 => simp at hj; subst hj; simp [add_none]
 | j + 2 => simp at hj
theorem step_append_rs {w : World} {ops : Array Oper} {o : Oper} {a : Act} {K : Act → World → Prop} {Q : Exit → Act → World → Prop} {E : Prop} (hgd : o.guard = none) (s x : Operand)
  (ho : o.op = .call { callee := .builtin .append, args := #[s, x], argTypes := #[33, 33] })
  (C : Nat) (v : Value) (rl : List RsA) (r : RsA) (hs : a.eval s = v) (hown : ResRow C w v rl)
  (ad : Addr) (c : Nat) (hx : a.eval x = .slice (some ad) 1 c) (hnews : ∀ j u, (rcells r)[j]? = some u → w.cell? (ad.add j) = some u)
  (hr : IsAt C w.heap.size w r.va r.vs) (hn : r.vs ≠ [] → ∀ ad, r.va = some ad → v.ownBlock ≠ some ad.block)
  (hsm : rl.length ≤ 100) (hbase : C ≤ w.heap.size)
  (h : ∀ v' w', ResRow C w' v' (rl ++ [r]) → w.grownBy w' v.ownBlock → K (a.put o.dst v') w') :
  if Region.wanted o (yielded ops a.tmps) = true then Oper.wp Tryz.prog o a w K Q else E := by
 obtain ⟨i, hi, hz, hsz, hby⟩ := info_parts Tryz.info41
 have hw : Region.wanted o (yielded ops a.tmps) = true := by simp [Region.wanted, hgd]
 rw [if_pos hw]
 obtain ⟨v', w', hrun, h2, h3, _, h5⟩ := run_append_own_at (P := Tryz.prog) w C 33 o.type 41 i _ 2 32 Tryz.underlying33 hi hz hsz hby rfl (by decide) v rl.length (flatR rl) hown.1 ad 1 c (rcells r) rfl hnews (fun u hu => flatR_one [r] u (by simpa [flatR] using hu)) (by unfold maxLen; omega) (by omega) hbase
 unfold Oper.wp execOp
 simp only [ho, resolve, invoke, builtin, Sem.run_bind, Sem.run_pure, Result.andThen_ok, List.map_toArray, List.map_cons, List.map_nil, hs, hx, hrun]
 exact h v' w' (hown.push h2 h3 h5 hr hn) h3
theorem wpList_append_rs {w : World} {ops : Array Oper} {rest : List Oper} {o : Oper} {a : Act} {Q : Exit → Act → World → Prop} (hgd : o.guard = none) (s x : Operand)
  (ho : o.op = .call { callee := .builtin .append, args := #[s, x], argTypes := #[33, 33] })
  (C : Nat) (v : Value) (rl : List RsA) (r : RsA) (hs : a.eval s = v) (hown : ResRow C w v rl)
  (ad : Addr) (c : Nat) (hx : a.eval x = .slice (some ad) 1 c) (hnews : ∀ j u, (rcells r)[j]? = some u → w.cell? (ad.add j) = some u)
  (hr : IsAt C w.heap.size w r.va r.vs) (hn : r.vs ≠ [] → ∀ ad, r.va = some ad → v.ownBlock ≠ some ad.block)
  (hsm : rl.length ≤ 100) (hbase : C ≤ w.heap.size)
  (h : ∀ v' w', ResRow C w' v' (rl ++ [r]) → w.grownBy w' v.ownBlock → wpList Tryz.prog ops Q rest (a.put o.dst v') w') :
  wpList Tryz.prog ops Q (o :: rest) a w := by
 obtain ⟨i, hi, hz, hsz, hby⟩ := info_parts Tryz.info41
 refine wpList_append_own_at w hgd s x 33 ho C 41 i _ 2 32 Tryz.underlying33 hi hz hsz hby rfl (by decide) v rl.length (flatR rl) hs hown.1 ad 1 c (rcells r) hx rfl hnews (fun u hu => flatR_one [r] u (by simpa [flatR] using hu)) (by unfold maxLen; omega) (by omega) hbase ?_
 intro v' w' h2 h3 _ h5
 exact h v' w' (hown.push h2 h3 h5 hr hn) h3
theorem clone8_own (zs : List Int) (ad : Addr) (zc : Nat) (w : World) (h4 : zs.length ≤ 8) (hz : IsInts w (some ad) zs) :
  Calls Tryz.prog 38 #[.slice (some ad) zs.length zc] w fun e w' => ∃ v, e = .returned v ∧ w'.ownsRow w.heap.size 3 1 v zs.length (zs.map (Value.int .i64)) ∧ Below w.heap.size w w' := by
 have q24 : ∀ (w : World) (a : Option Addr) (n c n' c' : Nat), (binOp .eql 25 (.slice a n c) (.slice none n' c')).run Tryz.prog w = .ok (.bool a.isNone) w := fun w a n c n' c' => Lib.run_eql_slice_nil w _ _ a n c n' c' Tryz.underlying25
 obtain ⟨i0, hi, hz0, hz1, hz2⟩ := info_parts Tryz.info3
 have hnews : ∀ (o : Obj) j u, (zs.map (Value.int .i64))[j]? = some u → (w.alloc o).cell? (ad.add j) = some u := by
  intro o j u hj
  have hlt : j < zs.length := by
   have := (List.getElem?_eq_some_iff.1 hj).1
   simpa using this
  obtain ⟨b, off, ha, hb, hc⟩ := hz j hlt
  injection ha with ha
  subst ha
  rw [add_none, World.cell?_alloc_lt _ _ _ hb, hc]
  simp [hlt] at hj
  simp [List.getD, hlt, hj]
 clear hz
 go_enter Tryz.func38, Tryz.ntmps38
 go_wp2_with (first
  | (at_builtin; refine wpList_append_own _ rfl _ _ 25 rfl w.heap.size 3 i0 (.int .i64 0) 1 8 Tryz.underlying25 hi hz0 hz1 hz2 rfl (by decide) _ 0 [] rfl (World.ownsRow_lit w #[] 0 (Nat.le_refl _) (by decide) rfl) ad zs.length zc (zs.map (Value.int .i64)) rfl (by simp) (hnews _) (ints_oneCell .i64 zs) (by unfold maxLen; omega) (by omega) (by simp) ?_; intro v' w1 hown' hgrow _)
  | go_in)
 have RB : Below w.heap.size w w1 := (grow_alloc (Below.refl _ _) _).grown hgrow (by simp) (fun j hj => by have hj' : some w.heap.size = some j := hj; injection hj' with hj'; exact Nat.le_of_eq hj')
 simp only [Nat.zero_add, List.nil_append] at hown'
 clear hgrow hnews
 go_wp2
 go_ret
 exact ⟨_, rfl, hown', RB⟩
end Go.Proofs.YtcgpkonfneofdaaGreat
namespace Go.Proofs.YtcgpkonfneofdaaGreat
open Go.RowKit
theorem equalInts_any (zs ys : List Int) (a a' : Option Addr) (cap cap' : Nat) (w : World) (hl : zs.length ≤ maxLen) (hz : IsInts w a zs) (hy : IsInts w a' ys) :
  Calls Tryz.prog 33 #[.slice a zs.length cap, .slice a' ys.length cap'] w fun e w' => e = .returned (.bool (decide (zs = ys))) ∧ Below w.heap.size w w' := by
 unfold maxLen at hl
 by_cases hlen : zs.length = ys.length
 ·have hbl : ((zs.length : Int) != (ys.length : Int)) = false := by simp [hlen]
  have HL : Hid (zs.length = ys.length) := hlen
  clear hlen
  go_enter Tryz.func33, Tryz.ntmps33
  go_wp2
  go_loopw [13] (fun i wr => ∃ k : Nat, k ≤ zs.length ∧ i = .int .i64 k ∧ Hid (zs = ys ↔ zs.drop k = ys.drop k) ∧ Below w.heap.size w wr) (fun i _ => zs.length - (intOf i).toNat)
  case atStart => exact ⟨0, Nat.zero_le _, rfl, Iff.rfl, Below.refl _ _⟩
  case round =>
   obtain ⟨k, hk, rfl, hno, hnx⟩ := hrel
   by_cases hlt : k < zs.length
   ·have hlt' : k < ys.length := by have := HL.out; omega
    obtain ⟨b, off, rfl, hb, hc⟩ := hz k hlt
    obtain ⟨b', off', rfl, hb', hc'⟩ := hy k hlt'
    have hs : Hid (zs = ys ↔ (zs.getD k 0 = ys.getD k 0 ∧ zs.drop (k + 1) = ys.drop (k + 1))) := hno.out.trans (same_step zs ys k hlt hlt')
    have hc := (hnx.cell (p := ⟨b, off + k, none⟩) hb).trans hc
    have hc' := (hnx.cell (p := ⟨b', off' + k, none⟩) hb').trans hc'
    have HX : Hid (Below w.heap.size w wr) := hnx
    generalize zs.getD k 0 = x at *
    generalize ys.getD k 0 = y at *
    clear hno hz hy hnx
    have i1 : (0 : Int) ≤ (k : Int) := by omega
    have i2 : (k : Int) < (zs.length : Int) := by omega
    have i3 : (k : Int) < (ys.length : Int) := by omega
    by_cases h1 : x = y
    ·have H' : Hid (zs = ys ↔ zs.drop (k + 1) = ys.drop (k + 1)) := hs.out.trans (by simp [h1])
     have h2 : (x != y) = false := by simpa using h1
     clear hs h1
     go_wp2_with fail
     go_quiet (fail)
     go_wp2
     go_roundw
     case rel => exact ⟨k + 1, by omega, by go_num, H', below_drewN HX.out _⟩
     case measure => simp [intOf]; omega
    ·have H' : Hid (¬ zs = ys) := by
      intro e
      exact h1 (hs.out.1 e).1
     have h2 : (x != y) = true := by simpa using h1
     clear hs h1
     go_wp2_with fail
     go_quiet (fail)
     go_wp2
     go_ret
     exact ⟨by rw [decide_eq_false H'.out]; rfl, below_drewN HX.out _⟩
   ·have H' : Hid (zs = ys) := by
     refine hno.out.2 ?_
     have := HL.out
     rw [List.drop_of_length_le (by omega), List.drop_of_length_le (by omega)]
    clear hno hz hy
    go_wp2
    go_ret
    exact ⟨by rw [decide_eq_true H'.out]; rfl, hnx⟩
 ·have H' : Hid (¬ zs = ys) := fun e => hlen (by rw [e])
  have hbl : ((zs.length : Int) != (ys.length : Int)) = true := by simp; omega
  clear hlen hz hy
  go_enter Tryz.func33, Tryz.ntmps33
  go_wp2
  go_ret
  exact ⟨by rw [decide_eq_false H'.out]; rfl, Below.refl _ _⟩
def cntE (n m : Nat) : Int := if m = n then 0 else 1
theorem audCount_any (xa ya : Option Addr) (n m xc yc : Nat) (w : World) :
  Calls Tryz.prog 31 #[.slice xa n xc, .slice ya m yc] w fun e w' => e = .returned (.int .i64 (cntE n m)) ∧ w' = w := by
 by_cases h : m = n
 ·have e0 : cntE n m = 0 := if_pos h
  rw [e0]
  have hb : ((m : Int) != (n : Int)) = false := by simp [h]
  clear h e0
  go_enter Tryz.func31, Tryz.ntmps31
  go_wp2
  go_ret
  exact ⟨rfl, rfl⟩
 ·have e0 : cntE n m = 1 := if_neg h
  rw [e0]
  have hb : ((m : Int) != (n : Int)) = true := by simp; omega
  clear h e0
  go_enter Tryz.func31, Tryz.ntmps31
  go_wp2
  go_ret
  exact ⟨rfl, rfl⟩
theorem audNone_any (la : Option Addr) (k lc : Nat) (n : Int) (w : World) :
  Calls Tryz.prog 58 #[.slice la k lc, .int .i64 n] w fun e w' => e = .returned (.int .i64 (noneE n k)) ∧ w' = w := by
 by_cases h1 : n < 0
 ·have e : noneE n k = 5 := if_pos (Or.inl h1)
  rw [e]
  clear e
  go_enter Tryz.func58, Tryz.ntmps58
  go_wp2
  go_ret
  exact ⟨rfl, rfl⟩
 ·by_cases h2 : (k : Int) ≤ n
  ·have e : noneE n k = 5 := if_pos (Or.inr h2)
   rw [e]
   clear e
   go_enter Tryz.func58, Tryz.ntmps58
   go_wp2
   go_ret
   exact ⟨rfl, rfl⟩
  ·have e : noneE n k = 0 := if_neg (by omega)
   have h3 : n < (k : Int) := by omega
   rw [e]
   clear e h2
   go_enter Tryz.func58, Tryz.ntmps58
   go_wp2
   go_ret
   exact ⟨rfl, rfl⟩
set_option maxHeartbeats 1000000 in
theorem same_any (d d' : Bool) (xs ys : List Int) (va va' : Option Addr) (vc vc' : Nat) (w : World) (hxl : xs.length ≤ maxLen) (hx : IsInts w va xs) (hy : IsInts w va' ys) :
  Calls Tryz.prog 32 #[.agg #[.bool d, .slice va xs.length vc], .agg #[.bool d', .slice va' ys.length vc']] w fun e w' => e = .returned (.bool (decide (((d, xs) : Bool × List Int) = (d', ys)))) ∧ Below w.heap.size w w' := by
 obtain ⟨W, hWe⟩ : ∃ W : World, W = ((w.alloc (.cells #[.bool d, .slice va xs.length vc] 41)).alloc (.cells #[.bool d', .slice va' ys.length vc'] 41)) := ⟨_, rfl⟩
 have hU : Hid (Below w.heap.size w W) := by subst hWe; exact grow_alloc (grow_alloc (Below.refl _ _) _) _
 have p0 : W.cell? ⟨w.heap.size, 0, none⟩ = some (.bool d) := by subst hWe; exact ext_cell (grow_alloc (Below.refl _ _) _) (at_new _ _ 41 _ 0 _ rfl rfl)
 have p1 : W.cell? ⟨w.heap.size, 1, none⟩ = some (.slice va xs.length vc) := by subst hWe; exact ext_cell (grow_alloc (Below.refl _ _) _) (at_new _ _ 41 _ 1 _ rfl rfl)
 have q0 : W.cell? ⟨w.heap.size + 1, 0, none⟩ = some (.bool d') := by subst hWe; exact at_new _ _ 41 _ 0 _ (by simp) rfl
 have q1 : W.cell? ⟨w.heap.size + 1, 1, none⟩ = some (.slice va' ys.length vc') := by subst hWe; exact at_new _ _ 41 _ 1 _ (by simp) rfl
 have HX : Hid (IsInts W va xs) := hx.below hU.out
 have HY : Hid (IsInts W va' ys) := hy.below hU.out
 have HWe : Hid (W = _) := hWe
 clear hx hy hWe
 by_cases hd : d = d'
 ·subst hd
  have HD : Hid (decide (((d, xs) : Bool × List Int) = (d, ys)) = decide (xs = ys)) := by show _ = _; simp
  go_enter Tryz.func32, Tryz.ntmps32
  go_upto_region 1 with fail
  rw [← HWe.out]
  clear HWe
  go_wp2_with fail
  refine (equalInts_any xs ys va va' vc vc' _ hxl HX.out HY.out).mono ?_
  rintro e w1 ⟨rfl, hb1⟩
  have B1 : Hid (Below w.heap.size w w1) := grow_trans hU.out hb1
  clear hb1
  go_wp2
  go_ret
  exact ⟨by rw [HD.out]; rfl, B1.out⟩
 ·have HD : Hid (decide (((d, xs) : Bool × List Int) = (d', ys)) = false) := decide_eq_false (fun e => hd (by injection e))
  have hd' : (d == d') = false := by simpa using hd
  clear hd
  go_enter Tryz.func32, Tryz.ntmps32
  go_upto_region 1 with fail
  rw [← HWe.out]
  clear HWe
  go_wp2
  go_ret
  exact ⟨by rw [HD.out]; rfl, hU.out⟩
end Go.Proofs.YtcgpkonfneofdaaGreat
