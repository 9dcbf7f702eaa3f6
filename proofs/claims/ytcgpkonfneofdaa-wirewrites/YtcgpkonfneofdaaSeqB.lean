/-
  Transactions in a row of one's own; order.Copy: a copy in memory of its own.
  Conditions: the transactions can be read and are right.
-/
import Derived.Test.YtcgpkonfneofdaaSeqA
import Derived.WalkKit
import Derived.WalkSpells
import Derived.WalkLawsBesides
import Derived.ProofKit
import Derived.Deep.RegionHeld
import Derived.Deep.RegionHeld3
import Derived.Deep.RegionLaw
import Derived.Deep.DeepCutAuto
import Derived.BigQuiet
import Derived.Maps.AppendAt
namespace Go.Proofs.Ytcgpkonfneofdaa
open Go.RowKit

/-- What a transaction says, wherever its lists lie. -/
abbrev Core := List Int × List Gd × List St
def TxA.core (x : TxA) : Core := (x.rs, x.gs, x.ss)
/-- All of a transaction's lists lie in these blocks, none of them in this one. -/
structure XIn (lo hi : Nat) (v : Value) (x : TxA) : Prop where
  r : InBlocks lo hi x.ra
  g : InBlocks lo hi x.ga
  s : InBlocks lo hi x.sa
  nr : ∀ ad, x.ra = some ad → v.ownBlock ≠ some ad.block
  ng : ∀ ad, x.ga = some ad → v.ownBlock ≠ some ad.block
  ns : ∀ ad, x.sa = some ad → v.ownBlock ≠ some ad.block

/-- Transactions in a row of one's own from block C on, their lists too, and none of these in the row's own block. -/
def TxRow (C : Nat) (w : World) (v : Value) (l : List TxA) : Prop :=
  w.ownsRow C 38 3 v l.length (flatX l) ∧ ∀ x ∈ l, IsX w x ∧ XIn C w.heap.size v x

theorem txRow_nil (C : Nat) (w : World) : TxRow C w (.slice none 0 0) [] := ⟨World.ownsRow_nil _ _ _ _, fun r hr => by cases hr⟩

theorem IsInts.keptBy {w w' : World} {row : Option Nat} {a : Option Addr} {zs : List Int} (h : IsInts w a zs) (hg : w.grownBy w' row) (hr : ∀ ad, a = some ad → row ≠ some ad.block) : IsInts w' a zs := fun i hi => by
  obtain ⟨b, off, ha, hlt, hc⟩ := h i hi
  exact ⟨b, off, ha, Nat.lt_of_lt_of_le hlt hg.size, hg.cell hc (fun e => hr _ ha e.symm)⟩
theorem IsGs.keptBy {w w' : World} {row : Option Nat} {a : Option Addr} {zs : List Gd} (h : IsGs w a zs) (hg : w.grownBy w' row) (hr : ∀ ad, a = some ad → row ≠ some ad.block) : IsGs w' a zs := fun i hi => by
  obtain ⟨b, off, ha, hlt, c0, c1, c2, c3, c4⟩ := h i hi
  have hn : some b ≠ row := fun e => hr _ ha e.symm
  exact ⟨b, off, ha, Nat.lt_of_lt_of_le hlt hg.size, hg.cell c0 hn, hg.cell c1 hn, hg.cell c2 hn, hg.cell c3 hn, hg.cell c4 hn⟩
theorem IsSs.keptBy {w w' : World} {row : Option Nat} {a : Option Addr} {zs : List St} (h : IsSs w a zs) (hg : w.grownBy w' row) (hr : ∀ ad, a = some ad → row ≠ some ad.block) : IsSs w' a zs := fun i hi => by
  obtain ⟨b, off, ha, hlt, c0, c1, c2, c3, c4, c5⟩ := h i hi
  have hn : some b ≠ row := fun e => hr _ ha e.symm
  exact ⟨b, off, ha, Nat.lt_of_lt_of_le hlt hg.size, hg.cell c0 hn, hg.cell c1 hn, hg.cell c2 hn, hg.cell c3 hn, hg.cell c4 hn, hg.cell c5 hn⟩
theorem IsX.keptBy {w w' : World} {row : Option Nat} {x : TxA} (h : IsX w x) (hg : w.grownBy w' row) (h1 : ∀ ad, x.ra = some ad → row ≠ some ad.block) (h2 : ∀ ad, x.ga = some ad → row ≠ some ad.block) (h3 : ∀ ad, x.sa = some ad → row ≠ some ad.block) : IsX w' x :=
  ⟨⟨h.t.r.keptBy hg h1, h.t.g.keptBy hg h2, h.t.s.keptBy hg h3, h.t.lr, h.t.lg, h.t.ls⟩, h.rn, h.gn, h.sn⟩

theorem XIn.widen {lo hi lo' hi' : Nat} {v : Value} {x : TxA} (h : XIn lo hi v x) (h1 : lo' ≤ lo) (h2 : hi ≤ hi') : XIn lo' hi' v x := ⟨h.r.widen h1 h2, h.g.widen h1 h2, h.s.widen h1 h2, h.nr, h.ng, h.ns⟩
theorem XIn.to {lo hi : Nat} {v v' : Value} {x : TxA} (h : XIn lo hi v x) (hv : v'.ownBlock = v.ownBlock ∨ v'.ownBlock = some hi) : XIn lo hi v' x := by
  rcases hv with e | e
  · exact ⟨h.r, h.g, h.s, by rw [e]; exact h.nr, by rw [e]; exact h.ng, by rw [e]; exact h.ns⟩
  · refine ⟨h.r, h.g, h.s, fun ad ha q => ?_, fun ad ha q => ?_, fun ad ha q => ?_⟩
    · rw [e] at q; injection q with q; have := (h.r ad ha).2; omega
    · rw [e] at q; injection q with q; have := (h.g ad ha).2; omega
    · rw [e] at q; injection q with q; have := (h.s ad ha).2; omega

theorem TxRow.kept {C : Nat} {w w' : World} {v : Value} {l : List TxA} {row : Option Nat} (h : TxRow C w v l) (hg : w.grownBy w' row) (hr : ∀ j, row = some j → j < C) : TxRow C w' v l := by
  refine ⟨h.1.kept hg ?_, fun x hm => ?_⟩
  · cases ho : v.ownBlock with
    | none => exact .inl rfl
    | some j => exact .inr (fun e => by have := (h.1.lt j ho).1; have := hr j e.symm; omega)
  · obtain ⟨h1, h2⟩ := h.2 x hm
    exact ⟨h1.keptBy hg (fun ad e q => by have := (h2.r ad e).1; have := hr _ q; omega) (fun ad e q => by have := (h2.g ad e).1; have := hr _ q; omega) (fun ad e q => by have := (h2.s ad e).1; have := hr _ q; omega), h2.widen (Nat.le_refl _) hg.size⟩
theorem TxRow.below {C : Nat} {w w' : World} {v : Value} {l : List TxA} (h : TxRow C w v l) (hb : Below w.heap.size w w') : TxRow C w' v l := h.kept (grownBy_of_below hb none) (fun j e => by cases e)
theorem TxRow.low {C C' : Nat} {w : World} {v : Value} {l : List TxA} (h : TxRow C w v l) (hc : C' ≤ C) : TxRow C' w v l := ⟨own_mono h.1 hc, fun x hx => ⟨(h.2 x hx).1, (h.2 x hx).2.widen hc (Nat.le_refl _)⟩⟩
theorem TxRow.push {C : Nat} {w w' : World} {v v' : Value} {l m : List TxA} (h : TxRow C w v l) (ho : w'.ownsRow C 38 3 v' (l.length + m.length) (flatX l ++ flatX m)) (hg : w.grownBy w' v.ownBlock) (hv : v'.ownBlock = v.ownBlock ∨ v'.ownBlock = some w.heap.size) (hm : ∀ x ∈ m, IsX w x ∧ XIn C w.heap.size v x) : TxRow C w' v' (l ++ m) := by
  refine ⟨by rw [flatX_app, List.length_append]; exact ho, fun x hx => ?_⟩
  have key : IsX w x ∧ XIn C w.heap.size v x := by
    rcases List.mem_append.1 hx with hx | hx
    · exact h.2 x hx
    · exact hm x hx
  exact ⟨key.1.keptBy hg key.2.nr key.2.ng key.2.ns, (key.2.to hv).widen (Nat.le_refl _) hg.size⟩
theorem TxRow.txs {C : Nat} {w : World} {v : Value} {l : List TxA} (h : TxRow C w v l) : ∃ a cap, v = .slice a l.length cap ∧ IsTxs w a l := txs_of_owns h.1 (fun x hx => (h.2 x hx).1)

/-- An append of transactions to transactions that the call owns, at a step of a region that draws its order. -/
theorem step_append_row {w : World} {ops : Array Oper} {o : Oper} {a : Act} {K : Act → World → Prop} {Q : Exit → Act → World → Prop} {E : Prop} (hgd : o.guard = none) (s x : Operand)
    (ho : o.op = .call { callee := .builtin .append, args := #[s, x], argTypes := #[23, 23] })
    (C : Nat) (v : Value) (l : List TxA) (hs : a.eval s = v) (hown : TxRow C w v l)
    (ad : Addr) (m : List TxA) (n c : Nat) (hx : a.eval x = .slice (some ad) n c) (hn : m.length = n) (hnews : Lies w ad (flatX m)) (hm : ∀ x ∈ m, IsX w x ∧ XIn C w.heap.size v x)
    (hsm : l.length + m.length ≤ 100) (hbase : C ≤ w.heap.size)
    (h : ∀ v' w', TxRow C w' v' (l ++ m) → w.grownBy w' v.ownBlock → (∀ j, v.ownBlock = some j → C ≤ j) → K (a.put o.dst v') w') :
    if Region.wanted o (yielded ops a.tmps) = true then Oper.wp Try.prog o a w K Q else E := by
  obtain ⟨i, hi, hz, hsz, hby⟩ := info_parts Try.info38
  have hw : Region.wanted o (yielded ops a.tmps) = true := by simp [Region.wanted, hgd]
  rw [if_pos hw]
  subst hn
  obtain ⟨v', w', hrun, h2, h3, _, h5⟩ := run_append_own_at (P := Try.prog) w C 23 o.type 38 i _ 3 72 Try.underlying23 hi hz hsz hby rfl (by decide) v l.length (flatX l) hown.1 ad m.length c (flatX m) (flatX_len m) hnews (flatX_one m) (by unfold maxLen; omega) (by omega) hbase
  unfold Oper.wp execOp
  simp only [ho, resolve, invoke, builtin, Sem.run_bind, Sem.run_pure, Result.andThen_ok, List.map_toArray, List.map_cons, List.map_nil, hs, hx, hrun]
  exact h v' w' (hown.push h2 h3 h5 hm) h3 (fun j hj => (hown.1.lt j hj).1)

theorem lies_one (w : World) (x : TxA) (n : Nat) (hn : n = w.heap.size) : Lies (w.alloc (.cells #[.slice x.ra x.rs.length x.rc, .slice x.ga x.gs.length x.gc, .slice x.sa x.ss.length x.sc] 38)) ⟨n, 0, none⟩ (flatX [x]) := by
  subst hn
  intro j u hj
  rw [add_none]
  match j, hj with
  | 0, hj => simp [flatX, xcells] at hj; subst hj; simp
  | 1, hj => simp [flatX, xcells] at hj; subst hj; simp
  | 2, hj => simp [flatX, xcells] at hj; subst hj; simp
  | j + 3, hj => simp [flatX, xcells] at hj

theorem copy_in {C : Nat} {v : Value} {Va wa wb wc w' : World} {rs : List Int} {gs : List Gd} {ss : List St} {a1 a2 a3 : Option Addr} {c1 c2 c3 : Nat} (h1 : IsInts wa a1 rs) (i1 : InBlocks Va.heap.size wa.heap.size a1) (n1 : a1 = none → c1 = 0) (hb2 : Below wa.heap.size wa wb) (h2 : IsGs wb a2 gs) (i2 : InBlocks wa.heap.size wb.heap.size a2) (n2 : a2 = none → c2 = 0) (hb3 : Below wb.heap.size wb wc) (h3 : IsSs wc a3 ss) (i3 : InBlocks wb.heap.size wc.heap.size a3) (n3 : a3 = none → c3 = 0) (hb4 : Below wc.heap.size wc w') (hb1 : Va.heap.size ≤ wa.heap.size) (hv : ∀ j, v.ownBlock = some j → j < Va.heap.size) (hC : C ≤ Va.heap.size) (lr : rs.length ≤ maxLen) (lg : gs.length ≤ maxLen) (ls : ss.length ≤ maxLen) :
    ∀ x ∈ [(⟨a1, a2, a3, c1, c2, c3, rs, gs, ss⟩ : TxA)], IsX w' x ∧ XIn C w'.heap.size v x := by
  intro x hx
  simp only [List.mem_singleton] at hx
  subst hx
  have s2 := hb2.size
  have s3 := hb3.size
  have s4 := hb4.size
  refine ⟨⟨⟨(h1.below (grow_trans hb2 hb3)).below hb4, (h2.below hb3).below hb4, h3.below hb4, lr, lg, ls⟩, n1, n2, n3⟩, ⟨i1.widen hC (by omega), i2.widen (by omega) (by omega), i3.widen (by omega) (by omega), fun ad e q => ?_, fun ad e q => ?_, fun ad e q => ?_⟩⟩
  · have := hv _ q; have := (i1 ad e).1; omega
  · have := hv _ q; have := (i2 ad e).1; omega
  · have := hv _ q; have := (i3 ad e).1; omega

theorem core_take (l : List TxA) (k : Nat) (h : k < l.length) : (l.take (k + 1)).map TxA.core = (l.take k).map TxA.core ++ [(l.getD k x0).core] := by
  rw [List.take_succ_eq_append_getElem h, List.map_append]
  simp [List.getD, h]

theorem gb_drew {V w : World} {r : Option Nat} (h : V.grownBy w r) : V.grownBy w.drew r := ⟨h.os, h.tape, h.output, h.size, h.block⟩
theorem gb_alloc {V w : World} {r : Option Nat} (h : V.grownBy w r) (o : Obj) : V.grownBy (w.alloc o) r := h.trans (World.grownBy_alloc w o r)
theorem gb_below {V w w' : World} {r : Option Nat} (h : V.grownBy w r) (hb : Below w.heap.size w w') : V.grownBy w' r := h.trans (grownBy_of_below hb r)
theorem gb_trans {V w w' : World} {r : Option Nat} (h : V.grownBy w r) (hb : w.grownBy w' r) : V.grownBy w' r := h.trans hb

end Go.Proofs.Ytcgpkonfneofdaa
