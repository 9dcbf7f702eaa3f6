/-
  
  Conditions: those that each theorem states.
-/
import Derived.Test.YtebjkmknhpgemaaGreatSHallH
set_option maxRecDepth 100000
namespace Go.Proofs.YtebjkmknhpgemaaGreat
open Go.ChangeShapes Go.WideShapes Go.ChangeAt Go.RowKit Go.Deep
section
variable {H : Type} {enc : TypeId × Value → H} {w : World} {base : Nat} {held : Bool}
theorem open_p {b0 : Nat} {v : Value} {d : DataW H} {p : List MemPlace} (hv : Value.okWide Tryz.prog w .any b0 24 v) (h : DataW.Trod enc Tryz.prog w base (fun _ => true) held 24 v d p) :
  ∃ (m : Int) (la : Option Addr) (l : List TxA) (lc : Nat), v = .agg #[.int .i64 m, .slice la l.length lc] ∧ IsTxs w la l := by
 obtain ⟨c0, c1, y0, y1, m, rfl, _, _, h0, h1⟩ := Joins.open_agg2 Tryz.underlying24 (by kernel_rfl) (by kernel_rfl) hv h
 obtain ⟨k, rfl⟩ := int_of h0
 obtain ⟨la, l, lc, rfl, _, _, hl, _⟩ := open_txs h1
 exact ⟨k, la, l, lc, rfl, hl⟩
theorem open_n {b0 : Nat} {v : Value} {d : DataW H} {p : List MemPlace} (hv : Value.okWide Tryz.prog w .any b0 3 v) (h : DataW.Trod enc Tryz.prog w base (fun _ => true) held 3 v d p) :
  ∃ n : Int, v = .int .i64 n ∧ (Lit.int .i64 n).wf = true := by
 obtain ⟨n, rfl, _, _, hw⟩ := open_int Tryz.underlying3 hv h
 exact ⟨n, rfl, hw⟩
end
end Go.Proofs.YtebjkmknhpgemaaGreat
namespace Go.Proofs.YtebjkmknhpgemaaGreat
open Go.ChangeShapes Go.WideShapes Go.ChangeAt Go.RowKit Go.Deep
section
variable {H : Type} {enc : TypeId × Value → H} {w : World} {base : Nat} {held : Bool}
theorem open_bl {n : Nat} {v : Value} {y : DataW H × List MemPlace} (h : DataW.trod enc Tryz.prog w base (fun _ => true) held n 65 [v] = some y) : ∃ (a : Option Addr) (bs : List Bool) (cap : Nat), v = .slice a bs.length cap ∧ bs.length ≤ maxLen ∧ IsBools w a bs ∧ (a = none → cap = 0) := by
 have k4 : Tryz.prog.cellsOf 4 = 1 := by kernel_rfl
 rcases open_slice Tryz.underlying65 h with ⟨hcs, _⟩ | ⟨a, len, cap, m, n', D, Pl, hcs, _, hl, hm, hmm, _, hx⟩
 ·simp at hcs
  exact ⟨none, [], 0, by simpa using hcs, by simp, fun i hi => absurd hi (by simp), fun _ => rfl⟩
 ·simp at hcs
  have hlm : len ≤ m := by rw [hmm]; split <;> omega
  rw [k4] at hx
  obtain ⟨f, hf⟩ := choose_lt (α := Bool) (p := fun i x => w.cell? ((a.add (i * 1)).add 0) = some (.bool x)) (n := m) (fun i hi => by
   obtain ⟨cs', h1, h2⟩ := hx i hi
   obtain ⟨_, hlen, hc⟩ := World.cells?_some h1
   match cs', hlen with
   | [c0], _ =>
    obtain ⟨x, hx', _⟩ := DataW.trod_bool Tryz.underlying4 h2
    simp at hx'
    subst hx'
    exact ⟨x, hc 0 (by omega)⟩)
  obtain ⟨b, off, spot⟩ := a
  refine ⟨some ⟨b, off, spot⟩, (List.range len).map f, cap, by simpa using hcs, by simp; omega, fun i hi => ?_, fun h => by cases h⟩
  have hi' : i < len := by simpa using hi
  have hsp : spot = none := by
   have := World.cell?_spot (hf 0 (by omega))
   simpa [Addr.add] using this
  subst hsp
  have e0 := hf i (by omega)
  have e0 : w.cell? ⟨b, off + i, none⟩ = some (.bool (f i)) := by
   rw [add_add] at e0
   simpa using e0
  have eg : ((List.range len).map f).getD i false = f i := by simp [List.getD, hi']
  rw [eg]
  exact ⟨b, off, rfl, World.block_lt_of_cell? w _ e0, e0⟩
theorem open_bb {n : Nat} {v : Value} {y : DataW H × List MemPlace} (h : DataW.trod enc Tryz.prog w base (fun _ => true) held n 26 [v] = some y) : ∃ (a : Option Addr) (rows : List (List Bool)) (cap : Nat), v = .slice a rows.length cap ∧ IsBB w a rows ∧ (a = none → cap = 0) := by
 have k26 : Tryz.prog.cellsOf 65 = 1 := by kernel_rfl
 rcases open_slice Tryz.underlying26 h with ⟨hcs, _⟩ | ⟨a, len, cap, m, n', D, Pl, hcs, _, hl, hm, hmm, _, hx⟩
 ·simp at hcs
  exact ⟨none, [], 0, by simpa using hcs, fun i hi => absurd hi (by simp), fun _ => rfl⟩
 ·simp at hcs
  have hlm : len ≤ m := by rw [hmm]; split <;> omega
  rw [k26] at hx
  obtain ⟨f, hf⟩ := choose_lt (α := Option Addr × List Bool × Nat) (p := fun i x => w.cell? ((a.add (i * 1)).add 0) = some (.slice x.1 x.2.1.length x.2.2) ∧ IsBools w x.1 x.2.1 ∧ (x.1 = none → x.2.2 = 0)) (n := m) (fun i hi => by
   obtain ⟨cs', h1, h2⟩ := hx i hi
   obtain ⟨_, hlen, hc⟩ := World.cells?_some h1
   match cs', hlen with
   | [c0], _ =>
    obtain ⟨a', zs, c', rfl, _, hz, hn⟩ := open_bl h2
    exact ⟨(a', zs, c'), hc 0 (by omega), hz, hn⟩)
  obtain ⟨b, off, spot⟩ := a
  refine ⟨some ⟨b, off, spot⟩, (List.range len).map (fun i => (f i).2.1), cap, by simpa using hcs, fun i hi => ?_, fun h => by cases h⟩
  have hi' : i < len := by simpa using hi
  have hsp : spot = none := by
   have := World.cell?_spot (hf 0 (by omega)).1
   simpa [Addr.add] using this
  subst hsp
  obtain ⟨e0, e1, e2⟩ := hf i (by omega)
  have e0 : w.cell? ⟨b, off + i, none⟩ = some (.slice (f i).1 (f i).2.1.length (f i).2.2) := by
   rw [add_add] at e0
   simpa using e0
  have eg : ((List.range len).map (fun i => (f i).2.1)).getD i [] = (f i).2.1 := by simp [List.getD, hi']
  rw [eg]
  refine ⟨b, off, (f i).1, (f i).2.2, rfl, World.block_lt_of_cell? w _ e0, e0, ?_, e2⟩
  exact e1
theorem open_ii {n : Nat} {v : Value} {y : DataW H × List MemPlace} (h : DataW.trod enc Tryz.prog w base (fun _ => true) held n 27 [v] = some y) : ∃ (a : Option Addr) (rows : List (List Int)) (cap : Nat), v = .slice a rows.length cap ∧ IsII w a rows ∧ (a = none → cap = 0) := by
 have k26 : Tryz.prog.cellsOf 25 = 1 := by kernel_rfl
 rcases open_slice Tryz.underlying27 h with ⟨hcs, _⟩ | ⟨a, len, cap, m, n', D, Pl, hcs, _, hl, hm, hmm, _, hx⟩
 ·simp at hcs
  exact ⟨none, [], 0, by simpa using hcs, fun i hi => absurd hi (by simp), fun _ => rfl⟩
 ·simp at hcs
  have hlm : len ≤ m := by rw [hmm]; split <;> omega
  rw [k26] at hx
  obtain ⟨f, hf⟩ := choose_lt (α := Option Addr × List Int × Nat) (p := fun i x => w.cell? ((a.add (i * 1)).add 0) = some (.slice x.1 x.2.1.length x.2.2) ∧ IsInts w x.1 x.2.1 ∧ (x.1 = none → x.2.2 = 0)) (n := m) (fun i hi => by
   obtain ⟨cs', h1, h2⟩ := hx i hi
   obtain ⟨_, hlen, hc⟩ := World.cells?_some h1
   match cs', hlen with
   | [c0], _ =>
    obtain ⟨a', zs, c', rfl, _, hz, hn⟩ := open_rs h2
    exact ⟨(a', zs, c'), hc 0 (by omega), hz, hn⟩)
  obtain ⟨b, off, spot⟩ := a
  refine ⟨some ⟨b, off, spot⟩, (List.range len).map (fun i => (f i).2.1), cap, by simpa using hcs, fun i hi => ?_, fun h => by cases h⟩
  have hi' : i < len := by simpa using hi
  have hsp : spot = none := by
   have := World.cell?_spot (hf 0 (by omega)).1
   simpa [Addr.add] using this
  subst hsp
  obtain ⟨e0, e1, e2⟩ := hf i (by omega)
  have e0 : w.cell? ⟨b, off + i, none⟩ = some (.slice (f i).1 (f i).2.1.length (f i).2.2) := by
   rw [add_add] at e0
   simpa using e0
  have eg : ((List.range len).map (fun i => (f i).2.1)).getD i [] = (f i).2.1 := by simp [List.getD, hi']
  rw [eg]
  refine ⟨b, off, (f i).1, (f i).2.2, rfl, World.block_lt_of_cell? w _ e0, e0, ?_, e2⟩
  exact e1
theorem open_st {b0 : Nat} {v : Value} {d : DataW H} {p : List MemPlace} (hv : Value.okWide Tryz.prog w .any b0 29 v) (h : DataW.Trod enc Tryz.prog w base (fun _ => true) held 29 v d p) :
  ∃ (sa ra wa va : Option Addr) (sc rc tc vc : Nat) (S : SA), v = .agg #[.slice sa S.st.length sc, .slice ra S.rd.length rc, .slice wa S.wr.length tc, .slice va S.vs.length vc] ∧ Sta w sa ra wa va S := by
 obtain ⟨c0, c1, c2, c3, y0, y1, y2, y3, m, rfl, _, _, h0, h1, h2, h3⟩ := Joins.open_agg4 Tryz.underlying29 (by kernel_rfl) (by kernel_rfl) hv h
 obtain ⟨sa, st, sc, rfl, _, is, _⟩ := open_rs h0
 obtain ⟨ra, rd, rc, rfl, ir, _⟩ := open_bb h1
 obtain ⟨wa, wr, tc, rfl, iw, _⟩ := open_bb h2
 obtain ⟨va, vs, vc, rfl, iv, _⟩ := open_ii h3
 exact ⟨sa, ra, wa, va, sc, rc, tc, vc, ⟨st, rd, wr, vs⟩, rfl, ⟨is, ir, iw, iv⟩⟩
end
end Go.Proofs.YtebjkmknhpgemaaGreat
