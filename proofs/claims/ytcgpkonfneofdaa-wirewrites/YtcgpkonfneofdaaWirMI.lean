/-
  Wire: the document and the program read the same. Wire: a plan that came in; it fits into bytes. Wire: the law's own examples.
  Conditions: those that each theorem states.
-/
import Derived.Test.YtcgpkonfneofdaaWirMH
import Derived.Test.YtcgpkonfneofdaaStoreC
import Derived.Test.YtcgpkonfneofdaaSeqC
import Derived.Test.YtcgpkonfneofdaaPlaceF
import Derived.WalkKit
import Derived.WalkSpells
import Derived.WalkLawsBesides
import Derived.Defers
import Derived.Recover
import Derived.ProofKit
import Derived.Deep.RegionHeld
import Derived.Deep.RegionHeld3
import Derived.Deep.RegionLaw
import Derived.Deep.DeepCutAuto
import Derived.Deep.QuietTactic
import Derived.BigQuiet
import Derived.Maps.AppendAt
import Derived.Lib.SliceRun
import Derived.Deep.AppendLies
namespace Go.Proofs.Ytcgpkonfneofdaa
open Go.RowKit

/-- What the document's reading gives fits. -/
def Good {α : Type} (g : List Int → α × List Int) (G : α → Prop) : Prop := ∀ bs, Byt bs → G (g bs).1 ∧ Byt (g bs).2
theorem zN_good : Good zN B1 := by
  intro bs h
  cases bs with
  | nil => exact ⟨⟨Int.le_refl _, by decide⟩, h⟩
  | cons b r => exact ⟨h b (by simp), h.tail⟩
theorem zK_good {α : Type} {g : List Int → α × List Int} {G : α → Prop} (hg : Good g G) : ∀ n, Good (zK g n) (fun l => l.length = n ∧ ∀ x ∈ l, G x)
  | 0, bs, h => ⟨⟨rfl, fun x hx => by cases hx⟩, h⟩
  | n + 1, bs, h => by
    obtain ⟨h1, h2⟩ := hg bs h
    obtain ⟨⟨h3, h4⟩, h5⟩ := zK_good hg n (g bs).2 h2
    refine ⟨⟨by simp [zK, h3], fun x hx => ?_⟩, h5⟩
    rcases List.mem_cons.1 hx with rfl | hx
    · exact h1
    · exact h4 x hx
theorem zL_good {α : Type} {g : List Int → α × List Int} {G : α → Prop} (hg : Good g G) : Good (zL g) (fun l => l.length < 256 ∧ ∀ x ∈ l, G x) := by
  intro bs h
  obtain ⟨⟨b1, b2⟩, h2⟩ := zN_good bs h
  obtain ⟨⟨h3, h4⟩, h5⟩ := zK_good hg (zN bs).1.toNat (zN bs).2 h2
  refine ⟨⟨?_, h4⟩, h5⟩
  show (zK g (zN bs).1.toNat (zN bs).2).1.length < 256
  rw [h3]; omega
theorem zV_good : Good zV I64 := by
  intro bs h
  obtain ⟨⟨h1, h2⟩, h3⟩ := zK_good zN_good 8 bs h
  refine ⟨?_, h3⟩
  have hB : Byt (zK zN 8 bs).1 := fun x hx => h2 x hx
  obtain ⟨a, b⟩ := valN_lt _ hB
  rw [h1] at b
  show I64 (sgn (valN (zK zN 8 bs).1))
  have b' : valN (zK zN 8 bs).1 < 18446744073709551616 := by simpa using b
  unfold sgn I64
  split <;> omega
theorem zO_good : Good zO OkO := by
  intro bs h
  obtain ⟨h1, h2⟩ := zN_good bs h
  obtain ⟨h3, h4⟩ := zV_good (zN bs).2 h2
  exact ⟨⟨h1, h3⟩, h4⟩
theorem zG_good : Good zG OkG := by
  intro bs h
  obtain ⟨h1, h2⟩ := zN_good bs h
  obtain ⟨h3, h4⟩ := zO_good (zN bs).2 h2
  obtain ⟨h5, h6⟩ := zO_good (zO (zN bs).2).2 h4
  exact ⟨⟨h1, h3.1, h3.2, h5.1, h5.2⟩, h6⟩
theorem zS_good : Good zS OkS := by
  intro bs h
  obtain ⟨h1, h2⟩ := zN_good bs h
  obtain ⟨h1', h2'⟩ := zN_good (zN bs).2 h2
  obtain ⟨h3, h4⟩ := zO_good (zN (zN bs).2).2 h2'
  obtain ⟨h5, h6⟩ := zO_good (zO (zN (zN bs).2).2).2 h4
  exact ⟨⟨h1, h1', h3.1, h3.2, h5.1, h5.2⟩, h6⟩
theorem zT_good : Good zT OkC := by
  intro bs h
  obtain ⟨h1, h2⟩ := zL_good zN_good bs h
  obtain ⟨h3, h4⟩ := zL_good zG_good (zL zN bs).2 h2
  obtain ⟨h5, h6⟩ := zL_good zS_good (zL zG (zL zN bs).2).2 h4
  exact ⟨⟨h1, h3, h5⟩, h6⟩
theorem zP_good : Good zP OkP := by
  intro bs h
  obtain ⟨h1, h2⟩ := zN_good bs h
  obtain ⟨h3, h4⟩ := zL_good zT_good (zN bs).2 h2
  exact ⟨⟨h1, h3.1, h3.2⟩, h4⟩
/-- The document's answer and the program's are the same. -/
theorem doc_same {bs : List Int} (h : Byt bs) : docOk bs = rdOk bs := by
  cases hr : rdOk bs with
  | some p =>
    simp only [rdOk, Option.bind_eq_some_iff] at hr
    obtain ⟨⟨q, r⟩, h1, h2⟩ := hr
    by_cases hc : r = [] ∧ planE q.1 (q.2.map cX) = 0
    · rw [if_pos hc] at h2
      injection h2 with h2
      subst h2
      obtain ⟨rfl, h3⟩ := hc
      have hz := zP_zero bs _ h1
      obtain ⟨h4, _⟩ := rdP_only bs q [] h h1
      unfold docOk
      rw [hz]
      rw [if_pos ⟨h3, by rw [h4]; simp⟩]
    · rw [if_neg hc] at h2; cases h2
  | none =>
    unfold docOk
    by_cases hc : planE (zP bs).1.1 ((zP bs).1.2.map cX) = 0 ∧ pB (zP bs).1 = bs
    · exfalso
      have hb := rdP_back (zP_good bs h).1 []
      rw [List.append_nil, hc.2] at hb
      simp [rdOk, hb, hc.1] at hr
    · rw [if_neg hc]
/-- What is read is what was written. -/
theorem rd_of_bytes {p : Int × List Core} (hp : OkP p) (hE : planE p.1 (p.2.map cX) = 0) : rdOk (pB p) = some p := by
  have hb := rdP_back hp []
  rw [List.append_nil] at hb
  simp [rdOk, hb, hE]
theorem bytes_of_rd {bs : List Int} {p : Int × List Core} (h : Byt bs) (hr : rdOk bs = some p) : pB p = bs ∧ planE p.1 (p.2.map cX) = 0 := by
  simp only [rdOk, Option.bind_eq_some_iff] at hr
  obtain ⟨⟨q, r⟩, h1, h2⟩ := hr
  by_cases hc : r = [] ∧ planE q.1 (q.2.map cX) = 0
  · rw [if_pos hc] at h2
    injection h2 with h2
    subst h2
    obtain ⟨rfl, h3⟩ := hc
    obtain ⟨h4, _⟩ := rdP_only bs q [] h h1
    exact ⟨by rw [h4]; simp, h3⟩
  · rw [if_neg hc] at h2; cases h2
end Go.Proofs.Ytcgpkonfneofdaa

namespace Go.Proofs.Ytcgpkonfneofdaa
open Go.ChangeShapes Go.WideShapes Go.ChangeAt Go.RowKit Go.Deep

/-- The values of a transaction are whole numbers of 64 bits. -/
def V64 (x : TxA) : Prop := (∀ z ∈ x.gs, I64 z.an ∧ I64 z.bn) ∧ (∀ z ∈ x.ss, I64 z.an ∧ I64 z.bn)
section
variable {H : Type} {enc : TypeId × Value → H} {w : World} {base : Nat} {spare : Nat → Bool} {held : Bool}

set_option maxRecDepth 100000 in
theorem int64_of {n : Nat} {c : Value} {y : DataW H × List MemPlace} (h : DataW.trod enc Try.prog w base spare held n 3 [c] = some y) : ∃ k, c = .int .i64 k ∧ I64 k := by
  obtain ⟨k, hk, _, hw⟩ := DataW.trod_int Try.underlying3 h
  refine ⟨k, by simpa using hk, ?_⟩
  simp only [Lit.wf, Bool.and_eq_true, decide_eq_true_eq] at hw
  have h1 : IntKind.i64.min = -9223372036854775808 := by decide
  have h2 : IntKind.i64.max = 9223372036854775807 := by decide
  rw [h1, h2] at hw
  exact ⟨hw.1, by omega⟩
set_option maxRecDepth 100000 in
theorem operand64_of {n : Nat} {c0 c1 : Value} {y : DataW H × List MemPlace} (h : DataW.trod enc Try.prog w base spare held n 45 [c0, c1] = some y) : ∃ k m, c0 = .int .i64 k ∧ c1 = .int .i64 m ∧ I64 m := by
  obtain ⟨y0, y1, m, _, _, h0, h1⟩ := trod_struct2 Try.underlying45 h
  have k3 : Try.prog.cellsOf 3 = 1 := by kernel_rfl
  simp only [k3] at h0 h1
  obtain ⟨a, ha⟩ := int_of (c := c0) (by simpa using h0)
  obtain ⟨b, hb, vb⟩ := int64_of (c := c1) (by simpa using h1)
  exact ⟨a, b, ha, hb, vb⟩

set_option maxRecDepth 100000 in
theorem guard64_of {n : Nat} {c0 c1 c2 c3 c4 : Value} {y : DataW H × List MemPlace} (h : DataW.trod enc Try.prog w base spare held n 101 [c0, c1, c2, c3, c4] = some y) : ∃ g : Gd, c0 = .int .i64 g.k ∧ c1 = .int .i64 g.ak ∧ c2 = .int .i64 g.an ∧ c3 = .int .i64 g.bk ∧ c4 = .int .i64 g.bn ∧ I64 g.an ∧ I64 g.bn := by
  obtain ⟨y0, y1, y2, m, _, _, h0, h1, h2⟩ := trod_struct3 Try.underlying101 h
  have k3 : Try.prog.cellsOf 3 = 1 := by kernel_rfl
  have k23 : Try.prog.cellsOf 45 = 2 := by kernel_rfl
  simp only [k3, k23] at h0 h1 h2
  obtain ⟨a, ha⟩ := int_of (c := c0) (by simpa using h0)
  obtain ⟨b, b', hb, hb', vb⟩ := operand64_of (c0 := c1) (c1 := c2) (by simpa using h1)
  obtain ⟨d, d', hd, hd', vd⟩ := operand64_of (c0 := c3) (c1 := c4) (by simpa using h2)
  exact ⟨⟨a, b, b', d, d'⟩, ha, hb, hb', hd, hd', vb, vd⟩

set_option maxRecDepth 100000 in
theorem set64_of {n : Nat} {c0 c1 c2 c3 c4 c5 : Value} {y : DataW H × List MemPlace} (h : DataW.trod enc Try.prog w base spare held n 47 [c0, c1, c2, c3, c4, c5] = some y) : ∃ g : St, c0 = .int .i64 g.key ∧ c1 = .int .i64 g.op ∧ c2 = .int .i64 g.ak ∧ c3 = .int .i64 g.an ∧ c4 = .int .i64 g.bk ∧ c5 = .int .i64 g.bn ∧ I64 g.an ∧ I64 g.bn := by
  obtain ⟨xs, m, _, _, _, hlen, hf⟩ := DataW.trod_struct Try.underlying47 h
  have k3 : Try.prog.cellsOf 3 = 1 := by kernel_rfl
  have k23 : Try.prog.cellsOf 45 = 2 := by kernel_rfl
  match xs, hlen with
  | [y0, y1, y2, y3], _ =>
    have h0 : DataW.trod enc Try.prog w base spare held m 3 (([c0, c1, c2, c3, c4, c5].drop 0).take (Try.prog.cellsOf 3)) = some y0 := hf 0 _ rfl
    have h1 : DataW.trod enc Try.prog w base spare held m 3 (([c0, c1, c2, c3, c4, c5].drop 1).take (Try.prog.cellsOf 3)) = some y1 := hf 1 _ rfl
    have h2 : DataW.trod enc Try.prog w base spare held m 45 (([c0, c1, c2, c3, c4, c5].drop 2).take (Try.prog.cellsOf 45)) = some y2 := hf 2 _ rfl
    have h3 : DataW.trod enc Try.prog w base spare held m 45 (([c0, c1, c2, c3, c4, c5].drop 4).take (Try.prog.cellsOf 45)) = some y3 := hf 3 _ rfl
    simp only [k3, k23] at h0 h1 h2 h3
    obtain ⟨a, ha⟩ := int_of (c := c0) (by simpa using h0)
    obtain ⟨a', ha'⟩ := int_of (c := c1) (by simpa using h1)
    obtain ⟨b, b', hb, hb', vb⟩ := operand64_of (c0 := c2) (c1 := c3) (by simpa using h2)
    obtain ⟨d, d', hd, hd', vd⟩ := operand64_of (c0 := c4) (c1 := c5) (by simpa using h3)
    exact ⟨⟨a, a', b, b', d, d'⟩, ha, ha', hb, hb', hd, hd', vb, vd⟩

set_option maxRecDepth 100000 in
theorem open_gs64 {n : Nat} {v : Value} {y : DataW H × List MemPlace} (h : DataW.trod enc Try.prog w base spare held n 35 [v] = some y) : ∃ (a : Option Addr) (gs : List Gd) (cap : Nat), v = .slice a gs.length cap ∧ gs.length ≤ maxLen ∧ IsGs w a gs ∧ (a = none → cap = 0) ∧ (∀ z ∈ gs, I64 z.an ∧ I64 z.bn) := by
  have k58 : Try.prog.cellsOf 101 = 5 := by kernel_rfl
  rcases open_slice Try.underlying35 h with ⟨hcs, _⟩ | ⟨a, len, cap, m, n', D, Pl, hcs, _, hl, hm, hmm, _, hx⟩
  · simp at hcs
    exact ⟨none, [], 0, by simpa using hcs, by simp, fun i hi => absurd hi (by simp), fun _ => rfl, fun z hz => by cases hz⟩
  · simp at hcs
    have hlm : len ≤ m := by rw [hmm]; split <;> omega
    rw [k58] at hx
    have : Inhabited Gd := ⟨g0⟩
    obtain ⟨f, hf⟩ := choose_lt (α := Gd) (p := fun i g => w.cell? ((a.add (i * 5)).add 0) = some (.int .i64 g.k) ∧ w.cell? ((a.add (i * 5)).add 1) = some (.int .i64 g.ak) ∧ w.cell? ((a.add (i * 5)).add 2) = some (.int .i64 g.an) ∧ w.cell? ((a.add (i * 5)).add 3) = some (.int .i64 g.bk) ∧ w.cell? ((a.add (i * 5)).add 4) = some (.int .i64 g.bn) ∧ I64 g.an ∧ I64 g.bn) (n := m) (fun i hi => by
      obtain ⟨cs', h1, h2⟩ := hx i hi
      obtain ⟨_, hlen, hc⟩ := World.cells?_some h1
      match cs', hlen with
      | [c0, c1, c2, c3, c4], _ =>
        obtain ⟨g, rfl, rfl, rfl, rfl, rfl, hv1, hv2⟩ := guard64_of h2
        exact ⟨g, hc 0 (by omega), hc 1 (by omega), hc 2 (by omega), hc 3 (by omega), hc 4 (by omega), hv1, hv2⟩)
    obtain ⟨b, off, spot⟩ := a
    refine ⟨some ⟨b, off, spot⟩, (List.range len).map f, cap, by simpa using hcs, by simp; omega, fun i hi => ?_, fun h => (by cases h), fun z hz => ?_⟩
    rotate_left
    · obtain ⟨i, hi, rfl⟩ := List.mem_map.1 hz
      have hi2 : i < len := by simpa using hi
      exact (hf i (by omega)).2.2.2.2.2
    have hi' : i < len := by simpa using hi
    have hsp : spot = none := by
      have := World.cell?_spot (hf 0 (by omega)).1
      simpa [Addr.add] using this
    subst hsp
    obtain ⟨e0, e1, e2, e3, e4, _⟩ := hf i (by omega)
    rw [add_add] at e0 e1 e2 e3 e4
    have eg : ((List.range len).map f).getD i g0 = f i := by simp [List.getD, hi']
    rw [eg]
    exact ⟨b, off, rfl, World.block_lt_of_cell? w _ e0, e0, e1, e2, e3, e4⟩

set_option maxRecDepth 100000 in
theorem open_ss64 {n : Nat} {v : Value} {y : DataW H × List MemPlace} (h : DataW.trod enc Try.prog w base spare held n 36 [v] = some y) : ∃ (a : Option Addr) (gs : List St) (cap : Nat), v = .slice a gs.length cap ∧ gs.length ≤ maxLen ∧ IsSs w a gs ∧ (a = none → cap = 0) ∧ (∀ z ∈ gs, I64 z.an ∧ I64 z.bn) := by
  have k76 : Try.prog.cellsOf 47 = 6 := by kernel_rfl
  rcases open_slice Try.underlying36 h with ⟨hcs, _⟩ | ⟨a, len, cap, m, n', D, Pl, hcs, _, hl, hm, hmm, _, hx⟩
  · simp at hcs
    exact ⟨none, [], 0, by simpa using hcs, by simp, fun i hi => absurd hi (by simp), fun _ => rfl, fun z hz => by cases hz⟩
  · simp at hcs
    have hlm : len ≤ m := by rw [hmm]; split <;> omega
    rw [k76] at hx
    have : Inhabited St := ⟨s0⟩
    obtain ⟨f, hf⟩ := choose_lt (α := St) (p := fun i g => w.cell? ((a.add (i * 6)).add 0) = some (.int .i64 g.key) ∧ w.cell? ((a.add (i * 6)).add 1) = some (.int .i64 g.op) ∧ w.cell? ((a.add (i * 6)).add 2) = some (.int .i64 g.ak) ∧ w.cell? ((a.add (i * 6)).add 3) = some (.int .i64 g.an) ∧ w.cell? ((a.add (i * 6)).add 4) = some (.int .i64 g.bk) ∧ w.cell? ((a.add (i * 6)).add 5) = some (.int .i64 g.bn) ∧ I64 g.an ∧ I64 g.bn) (n := m) (fun i hi => by
      obtain ⟨cs', h1, h2⟩ := hx i hi
      obtain ⟨_, hlen, hc⟩ := World.cells?_some h1
      match cs', hlen with
      | [c0, c1, c2, c3, c4, c5], _ =>
        obtain ⟨g, rfl, rfl, rfl, rfl, rfl, rfl, hv1, hv2⟩ := set64_of h2
        exact ⟨g, hc 0 (by omega), hc 1 (by omega), hc 2 (by omega), hc 3 (by omega), hc 4 (by omega), hc 5 (by omega), hv1, hv2⟩)
    obtain ⟨b, off, spot⟩ := a
    refine ⟨some ⟨b, off, spot⟩, (List.range len).map f, cap, by simpa using hcs, by simp; omega, fun i hi => ?_, fun h => (by cases h), fun z hz => ?_⟩
    rotate_left
    · obtain ⟨i, hi, rfl⟩ := List.mem_map.1 hz
      have hi2 : i < len := by simpa using hi
      exact (hf i (by omega)).2.2.2.2.2.2
    have hi' : i < len := by simpa using hi
    have hsp : spot = none := by
      have := World.cell?_spot (hf 0 (by omega)).1
      simpa [Addr.add] using this
    subst hsp
    obtain ⟨e0, e1, e2, e3, e4, e5, _⟩ := hf i (by omega)
    rw [add_add] at e0 e1 e2 e3 e4 e5
    have eg : ((List.range len).map f).getD i s0 = f i := by simp [List.getD, hi']
    rw [eg]
    exact ⟨b, off, rfl, World.block_lt_of_cell? w _ e0, e0, e1, e2, e3, e4, e5⟩

end
section
variable {H : Type} {enc : TypeId × Value → H} {w : World} {base : Nat} {held : Bool}
set_option maxRecDepth 100000 in
theorem tx64_of {n : Nat} {c0 c1 c2 : Value} {y : DataW H × List MemPlace} (h : DataW.trod enc Try.prog w base (fun _ => true) held n 38 [c0, c1, c2] = some y) :
    ∃ x : TxA, c0 = .slice x.ra x.rs.length x.rc ∧ c1 = .slice x.ga x.gs.length x.gc ∧ c2 = .slice x.sa x.ss.length x.sc ∧ IsX w x ∧ V64 x := by
  obtain ⟨y0, y1, y2, m, _, _, h0, h1, h2⟩ := trod_struct3 Try.underlying38 h
  have k22 : Try.prog.cellsOf 22 = 1 := by kernel_rfl
  have k23 : Try.prog.cellsOf 35 = 1 := by kernel_rfl
  have k24 : Try.prog.cellsOf 36 = 1 := by kernel_rfl
  simp only [k22, k23, k24] at h0 h1 h2
  obtain ⟨ra, rs, rc, rfl, lr, ir, rn⟩ := open_rs (v := c0) (by simpa using h0)
  obtain ⟨ga, gs, gc, rfl, lg, ig, gn, vg⟩ := open_gs64 (v := c1) (by simpa using h1)
  obtain ⟨sa, ss, sc, rfl, ls, is, sn, vs⟩ := open_ss64 (v := c2) (by simpa using h2)
  exact ⟨⟨ra, ga, sa, rc, gc, sc, rs, gs, ss⟩, rfl, rfl, rfl, ⟨⟨ir, ig, is, lr, lg, ls⟩, rn, gn, sn⟩, vg, vs⟩

set_option maxRecDepth 100000 in
theorem open_txs64 {n : Nat} {v : Value} {y : DataW H × List MemPlace} (h : DataW.trod enc Try.prog w base (fun _ => true) held n 23 [v] = some y) : ∃ (a : Option Addr) (l : List TxA) (cap : Nat), v = .slice a l.length cap ∧ l.length ≤ maxLen ∧ l.length ≤ cap ∧ IsTxs w a l ∧ (a = none → cap = 0) ∧ (∀ x ∈ l, V64 x) := by
  have k26 : Try.prog.cellsOf 38 = 3 := by kernel_rfl
  rcases open_slice Try.underlying23 h with ⟨hcs, _⟩ | ⟨a, len, cap, m, n', D, Pl, hcs, _, hl, hm, hmm, _, hx⟩
  · simp at hcs
    exact ⟨none, [], 0, by simpa using hcs, by simp, by simp, fun i hi => absurd hi (by simp), fun _ => rfl, fun z hz => by cases hz⟩
  · simp at hcs
    have hlm : len ≤ m := by rw [hmm]; split <;> omega
    rw [k26] at hx
    have : Inhabited TxA := ⟨x0⟩
    obtain ⟨f, hf⟩ := choose_lt (α := TxA) (p := fun i x => w.cell? ((a.add (i * 3)).add 0) = some (.slice x.ra x.rs.length x.rc) ∧ w.cell? ((a.add (i * 3)).add 1) = some (.slice x.ga x.gs.length x.gc) ∧ w.cell? ((a.add (i * 3)).add 2) = some (.slice x.sa x.ss.length x.sc) ∧ IsX w x ∧ V64 x) (n := m) (fun i hi => by
      obtain ⟨cs', h1, h2⟩ := hx i hi
      obtain ⟨_, hlen, hc⟩ := World.cells?_some h1
      match cs', hlen with
      | [c0, c1, c2], _ =>
        obtain ⟨x, rfl, rfl, rfl, hX⟩ := tx64_of h2
        exact ⟨x, hc 0 (by omega), hc 1 (by omega), hc 2 (by omega), hX⟩)
    obtain ⟨b, off, spot⟩ := a
    refine ⟨some ⟨b, off, spot⟩, (List.range len).map f, cap, by simpa using hcs, by simp; omega, by simp; omega, fun i hi => ?_, fun h => (by cases h), fun z hz => ?_⟩
    rotate_left
    · obtain ⟨i, hi, rfl⟩ := List.mem_map.1 hz
      have hi2 : i < len := by simpa using hi
      exact (hf i (by omega)).2.2.2.2
    have hi' : i < len := by simpa using hi
    have hsp : spot = none := by
      have := World.cell?_spot (hf 0 (by omega)).1
      simpa [Addr.add] using this
    subst hsp
    obtain ⟨e0, e1, e2, eX, _⟩ := hf i (by omega)
    rw [add_add] at e0 e1 e2
    have eg : ((List.range len).map f).getD i x0 = f i := by simp [List.getD, hi']
    rw [eg]
    exact ⟨b, off, rfl, World.block_lt_of_cell? w _ e0, e0, e1, e2, eX⟩

set_option maxRecDepth 100000 in
/-- A plan that came in, as the walks are told of it. -/
theorem open_p64 {b0 : Nat} {v : Value} {d : DataW H} {p : List MemPlace} (hv : Value.okWide Try.prog w .any b0 50 v) (h : DataW.Trod enc Try.prog w base (fun _ => true) held 50 v d p) :
    ∃ (m : Int) (la : Option Addr) (l : List TxA) (lc : Nat), v = .agg #[.int .i64 m, .slice la l.length lc] ∧ IsTxs w la l ∧ ∀ x ∈ l, V64 x := by
  obtain ⟨c0, c1, y0, y1, m, rfl, _, _, h0, h1⟩ := Joins.open_agg2 Try.underlying50 (by kernel_rfl) (by kernel_rfl) hv h
  obtain ⟨k, rfl⟩ := int_of h0
  obtain ⟨la, l, lc, rfl, _, _, hl, _, hv⟩ := open_txs64 h1
  exact ⟨k, la, l, lc, rfl, hl, hv⟩
end
theorem chkV_kind {k n : Int} {r : Nat} (h : chkV k n r = 0) : B1 k := by
  unfold chkV at h
  by_cases c0 : (r : Int) < 0 ∨ 4 < (r : Int)
  · rw [if_pos c0] at h; omega
  · rw [if_neg c0] at h
    by_cases c1 : k = 1
    · exact ⟨by omega, by omega⟩
    · rw [if_neg c1] at h
      by_cases c2 : k = 2
      · exact ⟨by omega, by omega⟩
      · rw [if_pos c2] at h; omega
theorem holdE_kind {k : Int} (h : holdE k = 0) : B1 k := by
  unfold holdE at h
  by_cases c : 1 ≤ k ∧ k ≤ 4
  · exact ⟨by omega, by omega⟩
  · rw [if_neg c] at h; omega
theorem reckE_kind {k : Int} (h : reckE k = 0) : B1 k := by
  unfold reckE at h
  by_cases c : 1 ≤ k ∧ k ≤ 6
  · exact ⟨by omega, by omega⟩
  · rw [if_neg c] at h; omega
/-- A right plan, its values whole numbers of 64 bits, fits into bytes. -/
theorem okP_of {m : Int} {l : List TxA} (hE : planE m l = 0) (hv : ∀ x ∈ l, V64 x) : OkP (m, l.map TxA.core) := by
  obtain ⟨m1, m2, hC⟩ := planE_zero hE
  refine ⟨⟨by simp only; omega, by simp only; omega⟩, by simp only [List.length_map]; have := chkL_small hC; omega, fun c hc => ?_⟩
  obtain ⟨x, hx, rfl⟩ := List.mem_map.1 hc
  obtain ⟨k, hk, rfl⟩ := List.getElem_of_mem hx
  have hX : chkX l[k] = 0 := by
    have := chkL_at hC k hk
    simpa [List.getD, hk] using this
  have hvx := hv _ hx
  generalize l[k] = x at *
  obtain ⟨ra, ga, sa, rc, gc, sc, rs, gs, ss⟩ := x
  have hT : chkTx rs gs ss = 0 := hX
  obtain ⟨p1, p2, p3, p4⟩ := chk_parts hT
  obtain ⟨s1, s2, s3, _⟩ := many_small _ _ _ p1
  obtain ⟨q1, q2⟩ := chk_ranges hT
  have hg : ∀ z ∈ gs, gErr rs.length z = 0 := fun z hz => by
    obtain ⟨i, hi, rfl⟩ := List.getElem_of_mem hz
    have := firstNZ_zero _ p3 i
    simpa [List.getD, hi] using this
  have hs : ∀ z ∈ ss, sErr rs.length z = 0 := fun z hz => by
    obtain ⟨i, hi, rfl⟩ := List.getElem_of_mem hz
    have := firstNZ_zero _ p4 i
    simpa [List.getD, hi] using this
  refine ⟨⟨by simp only [TxA.core]; omega, fun z hz => ?_⟩, ⟨by simp only [TxA.core]; omega, fun z hz => ?_⟩, by simp only [TxA.core]; omega, fun z hz => ?_⟩
  · have := rangeE_in rs q1 z hz
    exact ⟨by omega, by omega⟩
  · have h := firstNZ_zero _ (hg z hz)
    have h0 : holdE z.k = 0 := by simpa using h 0
    have h1 : chkV z.ak z.an rs.length = 0 := by simpa using h 1
    have h2 : chkV z.bk z.bn rs.length = 0 := by simpa using h 2
    exact ⟨holdE_kind h0, chkV_kind h1, (hvx.1 z hz).1, chkV_kind h2, (hvx.1 z hz).2⟩
  · have h := firstNZ_zero _ (hs z hz)
    have h0 : reckE z.op = 0 := by simpa using h 0
    have h1 : chkV z.ak z.an rs.length = 0 := by simpa using h 1
    have h2 : chkV z.bk z.bn rs.length = 0 := by simpa using h 2
    have hk : 0 ≤ z.key ∧ z.key < 8 := rangeE_in _ q2 _ (List.mem_map.2 ⟨z, hz, rfl⟩)
    exact ⟨⟨by omega, by omega⟩, reckE_kind h0, chkV_kind h1, (hvx.2 z hz).1, chkV_kind h2, (hvx.2 z hz).2⟩
end Go.Proofs.Ytcgpkonfneofdaa

namespace Go.Proofs.Ytcgpkonfneofdaa
open Go.RowKit

/-- What the three transactions say. -/
def c3 : List Core := [([0, 1], [gPay 3], [s1Pay 3, s2Pay 3]), ([1], [], [sNote]), ([], [], [sMark 9])]
theorem planE_c3 : planE 2 (c3.map cX) = 0 := by decide +kernel
theorem len_c3 : (pB (2, c3)).length = 113 := by decide +kernel
theorem v64_c3 : ∀ x ∈ c3.map cX, V64 x := by
  intro x hx
  simp only [c3, List.map_cons, List.map_nil, List.mem_cons, List.not_mem_nil, or_false] at hx
  rcases hx with rfl | rfl | rfl
  · refine ⟨fun z hz => ?_, fun z hz => ?_⟩
    · simp only [cX, List.mem_cons, List.not_mem_nil, or_false] at hz
      subst hz
      exact ⟨⟨by decide, by decide⟩, ⟨by decide, by decide⟩⟩
    · simp only [cX, List.mem_cons, List.not_mem_nil, or_false] at hz
      rcases hz with rfl | rfl <;> exact ⟨⟨by decide, by decide⟩, ⟨by decide, by decide⟩⟩
  · refine ⟨fun z hz => by simp [cX] at hz, fun z hz => ?_⟩
    simp only [cX, List.mem_cons, List.not_mem_nil, or_false] at hz
    subst hz
    exact ⟨⟨by decide, by decide⟩, ⟨by decide, by decide⟩⟩
  · refine ⟨fun z hz => by simp [cX] at hz, fun z hz => ?_⟩
    simp only [cX, List.mem_cons, List.not_mem_nil, or_false] at hz
    subst hz
    exact ⟨⟨by decide, by decide⟩, ⟨by decide, by decide⟩⟩
theorem okP_c3 : OkP (2, c3) := by
  have h := okP_of planE_c3 v64_c3
  have e : (c3.map cX).map TxA.core = c3 := by simp [c3, cX, TxA.core]
  rw [e] at h
  exact h
theorem rd_c3 : rdRes (pB (2, c3)) = some (2, c3) := by
  unfold rdRes
  rw [if_neg (by rw [len_c3]; decide)]
  exact rd_of_bytes okP_c3 planE_c3
theorem rd_c3x : rdRes (pB (2, c3) ++ [120]) = none ∧ rdE (pB (2, c3) ++ [120]) = 1 := by
  have hk : rdOk (pB (2, c3) ++ [120]) = none := by
    simp [rdOk, rdP_back okP_c3 [120]]
  have hl : ¬ 4096 < (pB (2, c3) ++ [120]).length := by rw [List.length_append, len_c3]; decide
  exact ⟨by unfold rdRes; rw [if_neg hl]; exact hk, by unfold rdE; rw [if_neg hl, hk]; rfl⟩
theorem small_core {cl : List TxA} {p : Int × List Core} (h : cl.map TxA.core = p.2) (hE : planE p.1 (p.2.map cX) = 0) : cl.length ≤ 8 ∧ ∀ x ∈ cl, x.rs.length ≤ 100 ∧ x.gs.length ≤ 100 ∧ x.ss.length ≤ 100 := by
  rw [← h, planE_core] at hE
  obtain ⟨h8, hf⟩ := few_of hE
  refine ⟨h8, fun x hx => ?_⟩
  obtain ⟨k, hk, rfl⟩ := List.getElem_of_mem hx
  have := hf k hk
  simp only [List.getD, hk, List.getElem?_eq_getElem, Option.getD_some] at this
  omega
theorem three_q (w : World) : Calls Try.prog 65 #[] w fun e w' => ∃ (a : Option Addr) (l : List TxA), e = .returned (.agg #[.int .i64 2, .slice a l.length 3]) ∧ l.map TxA.core = c3 ∧ IsTxs w' a l ∧ Below w.heap.size w w' :=
  (three_any w).mono fun _ _ ⟨a, _, _, _, _, _, _, _, _, _, _, _, _, he, htx, hb⟩ => ⟨a, _, he, rfl, htx, hb⟩
set_option maxRecDepth 100000 in
theorem field1 (m : Value) (a : Option Addr) (n c : Nat) (w : World) : (Instr.field 50 (.agg #[m, .slice a n c]) 1).run Try.prog w = .ok (.slice a n c) w := by kernel_rfl
set_option maxRecDepth 100000 in
set_option maxHeartbeats 2000000 in
theorem wireBegun_any (w : World) : Calls Try.prog 20 #[] w fun e w' => e = .returned (.bool true) ∧ Below w.heap.size w w' := by
  obtain ⟨BB, hBL, hBR, hBX, hBE, hBW⟩ : ∃ BB : List Int, BB.length = 113 ∧ rdRes BB = some (2, c3) ∧ rdRes (BB ++ [120]) = none ∧ rdE (BB ++ [120]) = 1 ∧ ∀ l : List TxA, l.map TxA.core = c3 → planE 2 l = 0 ∧ wrL 2 l = BB := ⟨pB (2, c3), len_c3, rd_c3, rd_c3x.1, rd_c3x.2, fun l hl => by
    have hE : planE 2 l = 0 := by rw [← planE_core, hl]; exact planE_c3
    refine ⟨hE, ?_⟩
    unfold wrL
    rw [if_pos hE, plB_core, hl]⟩
  have HBL := hid hBL
  have HBR := hid hBR
  have HBX := hid hBX
  have HBE := hid hBE
  have HBW := hid hBW
  have HPC : Hid (planE (2, c3).1 ((2, c3).2.map cX) = 0) := planE_c3
  clear hBL hBR hBX hBE hBW
  go_enter Try.func20, Try.ntmps20
  go_wp2_with fail
  refine (three_q _).mono ?_
  rintro e w1 ⟨a, l, rfl, hl, htx, hb1⟩
  obtain ⟨hE, hBw⟩ := HBW.out l hl
  have hW := wireWrite_any a 3 l 2 w1 htx
  rw [hE, hBw] at hW
  have CW := hid hW
  clear hBw HBW
  have B1 := hid hb1
  clear hl htx hb1 hE hW
  go_wp2_with fail
  refine CW.out.mono ?_
  rintro e w2 ⟨S, rfl, hS, hb2⟩
  have hsz : S.size = 113 := by rw [← lst_len, hS]; exact HBL.out
  have HS : Hid (lst S = BB) := hS
  have B2 : Hid (Below w.heap.size w w2) := grow_trans B1.out hb2
  clear hS hb2 CW B1
  go_wp2_with fail
  refine (wireRead_any S _).mono ?_
  rintro e w3 ⟨hb3, ho⟩
  unfold RdOut at ho
  rw [HS.out, HBR.out] at ho
  obtain ⟨a3, cl, c, rfl, htx3, hcl⟩ := ho
  have HCL : Hid (cl.map TxA.core = c3) := hcl
  have B3 : Hid (Below w.heap.size w w3) := grow_trans B2.out hb3
  obtain ⟨V3, hV3⟩ : ∃ V, V = w3.alloc (.cells #[.int .i64 2, .slice a3 cl.length c] 50) := ⟨_, rfl⟩
  have HV3 : Hid (V3 = w3.alloc (.cells #[.int .i64 2, .slice a3 cl.length c] 50)) := hV3
  have p0 : V3.cell? ⟨w3.heap.size, 0, none⟩ = some (.int .i64 2) := by subst hV3; simp
  have p1 : V3.cell? ⟨w3.heap.size, 1, none⟩ = some (.slice a3 cl.length c) := by subst hV3; simp
  have BV3 : Hid (Below w.heap.size w V3) := by subst hV3; exact grow_alloc B3.out _
  have HTX : Hid (IsTxs V3 a3 cl) := by subst hV3; exact htx3.below (grow_alloc (Below.refl _ _) _)
  clear hcl htx3 hb3 hV3 B2 B3
  go_upto_region 3 with fail
  rw [← HV3.out]
  clear HV3
  generalize w3.heap.size = Y at *
  go_wp2_with fail
  refine (wireRead_any _ _).mono ?_
  rintro e w4 ⟨hb4, ho⟩
  unfold RdOut at ho
  have e4 : ∀ X, lst (S ++ X) = BB ++ lst X := fun X => by rw [lst_app, HS.out]
  have ex : lst ({ data := #[120] } : ByteArray) = [120] := by decide
  rw [e4, ex, HBX.out, HBE.out] at ho
  subst ho
  have p0 := ext_cell hb4 p0
  have p1 := ext_cell hb4 p1
  have HTX := hid (HTX.out.below hb4)
  have B4 : Hid (Below w.heap.size w w4) := grow_trans BV3.out hb4
  obtain ⟨V, hV⟩ : ∃ V, V = w4.alloc (.cells #[.int .i64 0, .slice none 0 0] 50) := ⟨_, rfl⟩
  have HV : Hid (V = w4.alloc (.cells #[.int .i64 0, .slice none 0 0] 50)) := hV
  have p0 : V.cell? ⟨Y, 0, none⟩ = some (.int .i64 2) := by subst hV; exact ext_cell (grow_alloc (Below.refl _ _) _) p0
  have p1 : V.cell? ⟨Y, 1, none⟩ = some (.slice a3 cl.length c) := by subst hV; exact ext_cell (grow_alloc (Below.refl _ _) _) p1
  have HTX : Hid (IsTxs V a3 cl) := by subst hV; exact HTX.out.below (grow_alloc (Below.refl _ _) _)
  have BV : Hid (Below w.heap.size w V) := by subst hV; exact grow_alloc B4.out _
  clear hb4 e4 ex hV B4 BV3 HBX HBE HBR HBL
  go_upto_region 4 with fail
  rw [← HV.out]
  clear HV
  have EXT : Hid (∀ w', Below V.heap.size V w' → Hid (Below V.heap.size V w') ∧ w'.cell? ⟨Y, 0, none⟩ = some (.int .i64 2) ∧ w'.cell? ⟨Y, 1, none⟩ = some (.slice a3 cl.length c)) := fun w' hb => ⟨hb, ext_cell hb p0, ext_cell hb p1⟩
  have SM : Hid (cl.length ≤ 8 ∧ ∀ x ∈ cl, x.rs.length ≤ 100 ∧ x.gs.length ≤ 100 ∧ x.ss.length ≤ 100) := small_core (p := (2, c3)) HCL.out HPC.out
  have C3 : Hid (∀ w', Below V.heap.size V w' → Calls Try.prog 65 #[] w' fun e w'' => ∃ (a : Option Addr) (l : List TxA), e = .returned (.agg #[.int .i64 2, .slice a l.length 3]) ∧ Hid (l.map TxA.core = c3) ∧ Hid (IsTxs w'' a l) ∧ Below w'.heap.size w' w'') := fun w' _ => three_q w'
  have CS : Hid (∀ (a : Option Addr) (l : List TxA) w', Below V.heap.size V w' → l.map TxA.core = c3 → IsTxs w' a l → Calls Try.prog 22 #[.slice a3 cl.length c, .slice a l.length 3] w' fun e w'' => e = .returned (.bool true) ∧ Below w'.heap.size w' w'') := fun a l w' hb hc hx => sameTxns_eq cl l a3 a c 3 w' (HCL.out.trans hc.symm) (by have := SM.out.1; omega) SM.out.2 (HTX.out.below hb) hx
  have hfd : ∀ (m : Value) (a : Option Addr) (n c : Nat) (w : World), (Instr.field 50 (.agg #[m, .slice a n c]) 1).run Try.prog w = .ok (.slice a n c) w := field1
  clear p0 p1
  go_region_held3 (fun w' => Hid (Below V.heap.size V w') ∧ w'.cell? ⟨Y, 0, none⟩ = some (.int .i64 2) ∧ w'.cell? ⟨Y, 1, none⟩ = some (.slice a3 cl.length c)) ((go_split_ands; refine EXT.out _ ?_; repeat (first | assumption | exact Below.refl _ _ | exact Hid.out (by assumption) | refine grow_drew ?_ | refine grow_alloc ?_ _ | refine grow_trans ?_ (by assumption))))
    (first
      | (go_at_call 65; refine (C3.out _ ?_).mono ?_; (go_split_ands; repeat (first | assumption | exact Below.refl _ _ | exact Hid.out (by assumption) | refine grow_drew ?_ | refine grow_alloc ?_ _ | refine grow_trans ?_ (by assumption))); rintro e w' ⟨a5, l5, rfl, hl5, ht5, hb5⟩)
      | (go_at_call 22; refine (CS.out a5 l5 _ ?_ hl5.out ht5.out).mono ?_; (go_split_ands; repeat (first | assumption | exact Below.refl _ _ | exact Hid.out (by assumption) | refine grow_drew ?_ | refine grow_alloc ?_ _ | refine grow_trans ?_ (by assumption))); rintro e w' ⟨rfl, hb6⟩))
  all_goals (
    go_split_ands
    go_wp2_with fail
    go_ret
    refine ⟨rfl, grow_trans BV.out ?_⟩
    repeat (first | assumption | exact Below.refl _ _ | exact Hid.out (by assumption) | refine grow_drew ?_ | refine grow_alloc ?_ _ | refine grow_trans ?_ (by assumption)))
end Go.Proofs.Ytcgpkonfneofdaa
