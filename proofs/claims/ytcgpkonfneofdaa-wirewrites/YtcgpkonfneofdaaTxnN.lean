/-
  A transaction, and a list of ints, that came in: as the walks are told of them.
  Conditions: those that each theorem states.
-/
import Derived.Test.YtcgpkonfneofdaaTxnM
import Derived.Test.YtcgpkonfneofdaaTxnL
import Derived.Test.YtcgpkonfneofdaaTxnF
import Derived.WalkKit
import Derived.WalkSpells
import Derived.WalkLawsBesides
import Derived.ProofKit
import Derived.OpenShut
import Derived.ChangeOld
import Derived.Deep.Slices
import Derived.Deep.Strs
import Derived.Deep.RegionHeld3
import Derived.BigQuiet
import Derived.Lib.SmallJoins
namespace Go.Proofs.Ytcgpkonfneofdaa
open Go.ChangeShapes Go.WideShapes Go.ChangeAt Go.RowKit Go.Deep

section
variable {H : Type} {enc : TypeId × Value → H} {w : World} {base : Nat} {spare : Nat → Bool} {held : Bool}

set_option maxRecDepth 100000 in
theorem int_of {n : Nat} {c : Value} {y : DataW H × List MemPlace} (h : DataW.trod enc Try.prog w base spare held n 3 [c] = some y) : ∃ k, c = .int .i64 k := by
  obtain ⟨k, hk, _, _⟩ := DataW.trod_int Try.underlying3 h
  exact ⟨k, by simpa using hk⟩

set_option maxRecDepth 100000 in
theorem operand_of {n : Nat} {c0 c1 : Value} {y : DataW H × List MemPlace} (h : DataW.trod enc Try.prog w base spare held n 45 [c0, c1] = some y) : ∃ k m, c0 = .int .i64 k ∧ c1 = .int .i64 m := by
  obtain ⟨y0, y1, m, _, _, h0, h1⟩ := trod_struct2 Try.underlying45 h
  have k3 : Try.prog.cellsOf 3 = 1 := by kernel_rfl
  simp only [k3] at h0 h1
  obtain ⟨a, ha⟩ := int_of (c := c0) (by simpa using h0)
  obtain ⟨b, hb⟩ := int_of (c := c1) (by simpa using h1)
  exact ⟨a, b, ha, hb⟩

set_option maxRecDepth 100000 in
theorem guard_of {n : Nat} {c0 c1 c2 c3 c4 : Value} {y : DataW H × List MemPlace} (h : DataW.trod enc Try.prog w base spare held n 101 [c0, c1, c2, c3, c4] = some y) : ∃ g : Gd, c0 = .int .i64 g.k ∧ c1 = .int .i64 g.ak ∧ c2 = .int .i64 g.an ∧ c3 = .int .i64 g.bk ∧ c4 = .int .i64 g.bn := by
  obtain ⟨y0, y1, y2, m, _, _, h0, h1, h2⟩ := trod_struct3 Try.underlying101 h
  have k3 : Try.prog.cellsOf 3 = 1 := by kernel_rfl
  have k23 : Try.prog.cellsOf 45 = 2 := by kernel_rfl
  simp only [k3, k23] at h0 h1 h2
  obtain ⟨a, ha⟩ := int_of (c := c0) (by simpa using h0)
  obtain ⟨b, b', hb, hb'⟩ := operand_of (c0 := c1) (c1 := c2) (by simpa using h1)
  obtain ⟨d, d', hd, hd'⟩ := operand_of (c0 := c3) (c1 := c4) (by simpa using h2)
  exact ⟨⟨a, b, b', d, d'⟩, ha, hb, hb', hd, hd'⟩

set_option maxRecDepth 100000 in
theorem set_of {n : Nat} {c0 c1 c2 c3 c4 c5 : Value} {y : DataW H × List MemPlace} (h : DataW.trod enc Try.prog w base spare held n 47 [c0, c1, c2, c3, c4, c5] = some y) : ∃ g : St, c0 = .int .i64 g.key ∧ c1 = .int .i64 g.op ∧ c2 = .int .i64 g.ak ∧ c3 = .int .i64 g.an ∧ c4 = .int .i64 g.bk ∧ c5 = .int .i64 g.bn := by
  obtain ⟨xs, m, _, _, _, hlen, hf⟩ := DataW.trod_struct Try.underlying47 h
  have k3 : Try.prog.cellsOf 3 = 1 := by kernel_rfl
  have k23 : Try.prog.cellsOf 45 = 2 := by kernel_rfl
  match xs, hlen with
  | [y0, y1, y2, y3], _ =>
    have h0 : DataW.trod enc Try.prog w base spare held m 3 (([c0, c1, c2, c3, c4, c5].drop 0).take (Try.prog.cellsOf 3)) = some y0 := hf 0 _ rfl
    have h1 : DataW.trod enc Try.prog w base spare held m 3 (([c0, c1, c2, c3, c4, c5].drop 1).take (Try.prog.cellsOf 3)) = some y1 := hf 1 _ rfl
    have h2 : DataW.trod enc Try.prog w base spare held m 45 (([c0, c1, c2, c3, c4, c5].drop 2).take (Try.prog.cellsOf 45)) = some y2 := hf 2 _ rfl
    have h3 : DataW.trod enc Try.prog w base spare held m 45 (([c0, c1, c2, c3, c4, c5].drop 4).take (Try.prog.cellsOf 45)) = some y3 := hf 3 _ rfl
    simp only [k3, k23] at h0 h1 h2 h3
    obtain ⟨a, ha⟩ := int_of (c := c0) (by simpa using h0)
    obtain ⟨a', ha'⟩ := int_of (c := c1) (by simpa using h1)
    obtain ⟨b, b', hb, hb'⟩ := operand_of (c0 := c2) (c1 := c3) (by simpa using h2)
    obtain ⟨d, d', hd, hd'⟩ := operand_of (c0 := c4) (c1 := c5) (by simpa using h3)
    exact ⟨⟨a, a', b, b', d, d'⟩, ha, ha', hb, hb', hd, hd'⟩

set_option maxRecDepth 100000 in
theorem add_add (b off i j : Nat) : ((⟨b, off, none⟩ : Addr).add i).add j = ⟨b, off + i + j, none⟩ := by rw [add_none, add_none]

set_option maxRecDepth 100000 in
theorem open_gs {n : Nat} {v : Value} {y : DataW H × List MemPlace} (h : DataW.trod enc Try.prog w base spare held n 35 [v] = some y) : ∃ (a : Option Addr) (gs : List Gd) (cap : Nat), v = .slice a gs.length cap ∧ gs.length ≤ maxLen ∧ IsGs w a gs ∧ (a = none → cap = 0) := by
  have k58 : Try.prog.cellsOf 101 = 5 := by kernel_rfl
  rcases open_slice Try.underlying35 h with ⟨hcs, _⟩ | ⟨a, len, cap, m, n', D, Pl, hcs, _, hl, hm, hmm, _, hx⟩
  · simp at hcs
    exact ⟨none, [], 0, by simpa using hcs, by simp, fun i hi => absurd hi (by simp), fun _ => rfl⟩
  · simp at hcs
    have hlm : len ≤ m := by rw [hmm]; split <;> omega
    rw [k58] at hx
    have : Inhabited Gd := ⟨g0⟩
    obtain ⟨f, hf⟩ := choose_lt (α := Gd) (p := fun i g => w.cell? ((a.add (i * 5)).add 0) = some (.int .i64 g.k) ∧ w.cell? ((a.add (i * 5)).add 1) = some (.int .i64 g.ak) ∧ w.cell? ((a.add (i * 5)).add 2) = some (.int .i64 g.an) ∧ w.cell? ((a.add (i * 5)).add 3) = some (.int .i64 g.bk) ∧ w.cell? ((a.add (i * 5)).add 4) = some (.int .i64 g.bn)) (n := m) (fun i hi => by
      obtain ⟨cs', h1, h2⟩ := hx i hi
      obtain ⟨_, hlen, hc⟩ := World.cells?_some h1
      match cs', hlen with
      | [c0, c1, c2, c3, c4], _ =>
        obtain ⟨g, rfl, rfl, rfl, rfl, rfl⟩ := guard_of h2
        exact ⟨g, hc 0 (by omega), hc 1 (by omega), hc 2 (by omega), hc 3 (by omega), hc 4 (by omega)⟩)
    obtain ⟨b, off, spot⟩ := a
    refine ⟨some ⟨b, off, spot⟩, (List.range len).map f, cap, by simpa using hcs, by simp; omega, fun i hi => ?_, fun h => by cases h⟩
    have hi' : i < len := by simpa using hi
    have hsp : spot = none := by
      have := World.cell?_spot (hf 0 (by omega)).1
      simpa [Addr.add] using this
    subst hsp
    obtain ⟨e0, e1, e2, e3, e4⟩ := hf i (by omega)
    rw [add_add] at e0 e1 e2 e3 e4
    have eg : ((List.range len).map f).getD i g0 = f i := by simp [List.getD, hi']
    rw [eg]
    exact ⟨b, off, rfl, World.block_lt_of_cell? w _ e0, e0, e1, e2, e3, e4⟩

set_option maxRecDepth 100000 in
theorem open_ss {n : Nat} {v : Value} {y : DataW H × List MemPlace} (h : DataW.trod enc Try.prog w base spare held n 36 [v] = some y) : ∃ (a : Option Addr) (gs : List St) (cap : Nat), v = .slice a gs.length cap ∧ gs.length ≤ maxLen ∧ IsSs w a gs ∧ (a = none → cap = 0) := by
  have k76 : Try.prog.cellsOf 47 = 6 := by kernel_rfl
  rcases open_slice Try.underlying36 h with ⟨hcs, _⟩ | ⟨a, len, cap, m, n', D, Pl, hcs, _, hl, hm, hmm, _, hx⟩
  · simp at hcs
    exact ⟨none, [], 0, by simpa using hcs, by simp, fun i hi => absurd hi (by simp), fun _ => rfl⟩
  · simp at hcs
    have hlm : len ≤ m := by rw [hmm]; split <;> omega
    rw [k76] at hx
    have : Inhabited St := ⟨s0⟩
    obtain ⟨f, hf⟩ := choose_lt (α := St) (p := fun i g => w.cell? ((a.add (i * 6)).add 0) = some (.int .i64 g.key) ∧ w.cell? ((a.add (i * 6)).add 1) = some (.int .i64 g.op) ∧ w.cell? ((a.add (i * 6)).add 2) = some (.int .i64 g.ak) ∧ w.cell? ((a.add (i * 6)).add 3) = some (.int .i64 g.an) ∧ w.cell? ((a.add (i * 6)).add 4) = some (.int .i64 g.bk) ∧ w.cell? ((a.add (i * 6)).add 5) = some (.int .i64 g.bn)) (n := m) (fun i hi => by
      obtain ⟨cs', h1, h2⟩ := hx i hi
      obtain ⟨_, hlen, hc⟩ := World.cells?_some h1
      match cs', hlen with
      | [c0, c1, c2, c3, c4, c5], _ =>
        obtain ⟨g, rfl, rfl, rfl, rfl, rfl, rfl⟩ := set_of h2
        exact ⟨g, hc 0 (by omega), hc 1 (by omega), hc 2 (by omega), hc 3 (by omega), hc 4 (by omega), hc 5 (by omega)⟩)
    obtain ⟨b, off, spot⟩ := a
    refine ⟨some ⟨b, off, spot⟩, (List.range len).map f, cap, by simpa using hcs, by simp; omega, fun i hi => ?_, fun h => by cases h⟩
    have hi' : i < len := by simpa using hi
    have hsp : spot = none := by
      have := World.cell?_spot (hf 0 (by omega)).1
      simpa [Addr.add] using this
    subst hsp
    obtain ⟨e0, e1, e2, e3, e4, e5⟩ := hf i (by omega)
    rw [add_add] at e0 e1 e2 e3 e4 e5
    have eg : ((List.range len).map f).getD i s0 = f i := by simp [List.getD, hi']
    rw [eg]
    exact ⟨b, off, rfl, World.block_lt_of_cell? w _ e0, e0, e1, e2, e3, e4, e5⟩

set_option maxRecDepth 100000 in
theorem open_rs {n : Nat} {v : Value} {y : DataW H × List MemPlace} (h : DataW.trod enc Try.prog w base (fun _ => true) held n 22 [v] = some y) : ∃ (a : Option Addr) (zs : List Int) (cap : Nat), v = .slice a zs.length cap ∧ zs.length ≤ maxLen ∧ IsInts w a zs ∧ (a = none → cap = 0) := by
  rcases open_ints Try.underlying22 Try.underlying3 (by kernel_rfl) h with ⟨hcs, _⟩ | ⟨x, l, c, zs, hcs, _, hl, hm, hz, _, hcell, hwz⟩
  · simp at hcs
    exact ⟨none, [], 0, by simpa using hcs, by simp, fun i hi => absurd hi (by simp), fun _ => rfl⟩
  · simp at hcs
    have hzl : (zs.take l).length = l := by rw [List.length_take]; simp at hz; omega
    refine ⟨some x, zs.take l, c, by rw [hzl]; simpa using hcs, by rw [hzl]; omega, fun i hi => ?_, fun h => by cases h⟩
    have hi' : i < l := by omega
    have hc := hcell i (by simp at hz; omega)
    obtain ⟨b, off, spot⟩ := x
    have hspot : spot = none := by simpa [Addr.add] using World.cell?_spot (hcell 0 (by simp at hz; omega))
    subst hspot
    have hc0 : w.cell? ⟨b, off + i, none⟩ = some (.int .i64 (zs.getD i 0)) := by rw [← add_none]; exact hc
    refine ⟨b, off, rfl, World.block_lt_of_cell? w _ hc0, ?_⟩
    rw [hc0]
    simp [List.getD, hi']

set_option maxRecDepth 100000 in
/-- A transaction that came in, as the walks are told of it. -/
theorem open_tx {b0 : Nat} {v : Value} {d : DataW H} {p : List MemPlace} (hv : Value.okWide Try.prog w .any b0 38 v) (h : DataW.Trod enc Try.prog w base (fun _ => true) held 38 v d p) :
    ∃ (ra ga sa : Option Addr) (rc gc sc : Nat) (rs : List Int) (gs : List Gd) (ss : List St), v = .agg #[.slice ra rs.length rc, .slice ga gs.length gc, .slice sa ss.length sc] ∧ IsTx w ra ga sa rs gs ss ∧ (ra = none → rc = 0) ∧ (ga = none → gc = 0) ∧ (sa = none → sc = 0) := by
  obtain ⟨c0, c1, c2, y0, y1, y2, m, rfl, _, _, h0, h1, h2⟩ := Joins.open_agg3 Try.underlying38 (by kernel_rfl) (by kernel_rfl) hv h
  obtain ⟨ra, rs, rc, rfl, lr, ir, rn⟩ := open_rs h0
  obtain ⟨ga, gs, gc, rfl, lg, ig, gn⟩ := open_gs h1
  obtain ⟨sa, ss, sc, rfl, ls, is, sn⟩ := open_ss h2
  exact ⟨ra, ga, sa, rc, gc, sc, rs, gs, ss, rfl, ⟨ir, ig, is, lr, lg, ls⟩, rn, gn, sn⟩
end
end Go.Proofs.Ytcgpkonfneofdaa
