/-
  
  Conditions: those that each theorem states.
-/
import Derived.Test.YtcgpkonfneofdaaGreatSTxnM
import Derived.Deep.Slices
import Derived.Deep.Strs
set_option maxRecDepth 100000
namespace Go.Proofs.YtcgpkonfneofdaaGreat
open Go.ChangeShapes Go.WideShapes Go.ChangeAt Go.RowKit Go.Deep
section
variable {H : Type} {enc : TypeId × Value → H} {w : World} {base : Nat} {spare : Nat → Bool} {held : Bool}
theorem int_of {n : Nat} {c : Value} {y : DataW H × List MemPlace} (h : DataW.trod enc Tryz.prog w base spare held n 3 [c] = some y) : ∃ k, c = .int .i64 k := by
 obtain ⟨k, hk, _, _⟩ := DataW.trod_int Tryz.underlying3 h
 exact ⟨k, by simpa using hk⟩
theorem operand_of {n : Nat} {c0 c1 : Value} {y : DataW H × List MemPlace} (h : DataW.trod enc Tryz.prog w base spare held n 101 [c0, c1] = some y) : ∃ k m, c0 = .int .i64 k ∧ c1 = .int .i64 m := by
 obtain ⟨y0, y1, m, _, _, h0, h1⟩ := trod_struct2 Tryz.underlying101 h
 have k3 : Tryz.prog.cellsOf 3 = 1 := by kernel_rfl
 simp only [k3] at h0 h1
 obtain ⟨a, ha⟩ := int_of (c := c0) (by simpa using h0)
 obtain ⟨b, hb⟩ := int_of (c := c1) (by simpa using h1)
 exact ⟨a, b, ha, hb⟩
theorem guard_of {n : Nat} {c0 c1 c2 c3 c4 : Value} {y : DataW H × List MemPlace} (h : DataW.trod enc Tryz.prog w base spare held n 104 [c0, c1, c2, c3, c4] = some y) : ∃ g : Gd, c0 = .int .i64 g.k ∧ c1 = .int .i64 g.ak ∧ c2 = .int .i64 g.an ∧ c3 = .int .i64 g.bk ∧ c4 = .int .i64 g.bn := by
 obtain ⟨y0, y1, y2, m, _, _, h0, h1, h2⟩ := trod_struct3 Tryz.underlying104 h
 have k3 : Tryz.prog.cellsOf 3 = 1 := by kernel_rfl
 have k23 : Tryz.prog.cellsOf 101 = 2 := by kernel_rfl
 simp only [k3, k23] at h0 h1 h2
 obtain ⟨a, ha⟩ := int_of (c := c0) (by simpa using h0)
 obtain ⟨b, b', hb, hb'⟩ := operand_of (c0 := c1) (c1 := c2) (by simpa using h1)
 obtain ⟨d, d', hd, hd'⟩ := operand_of (c0 := c3) (c1 := c4) (by simpa using h2)
 exact ⟨⟨a, b, b', d, d'⟩, ha, hb, hb', hd, hd'⟩
theorem set_of {n : Nat} {c0 c1 c2 c3 c4 c5 : Value} {y : DataW H × List MemPlace} (h : DataW.trod enc Tryz.prog w base spare held n 106 [c0, c1, c2, c3, c4, c5] = some y) : ∃ g : St, c0 = .int .i64 g.key ∧ c1 = .int .i64 g.op ∧ c2 = .int .i64 g.ak ∧ c3 = .int .i64 g.an ∧ c4 = .int .i64 g.bk ∧ c5 = .int .i64 g.bn := by
 obtain ⟨xs, m, _, _, _, hlen, hf⟩ := DataW.trod_struct Tryz.underlying106 h
 have k3 : Tryz.prog.cellsOf 3 = 1 := by kernel_rfl
 have k23 : Tryz.prog.cellsOf 101 = 2 := by kernel_rfl
 match xs, hlen with
 | [y0, y1, y2, y3], _ =>
  have h0 : DataW.trod enc Tryz.prog w base spare held m 3 (([c0, c1, c2, c3, c4, c5].drop 0).take (Tryz.prog.cellsOf 3)) = some y0 := hf 0 _ rfl
  have h1 : DataW.trod enc Tryz.prog w base spare held m 3 (([c0, c1, c2, c3, c4, c5].drop 1).take (Tryz.prog.cellsOf 3)) = some y1 := hf 1 _ rfl
  have h2 : DataW.trod enc Tryz.prog w base spare held m 101 (([c0, c1, c2, c3, c4, c5].drop 2).take (Tryz.prog.cellsOf 101)) = some y2 := hf 2 _ rfl
  have h3 : DataW.trod enc Tryz.prog w base spare held m 101 (([c0, c1, c2, c3, c4, c5].drop 4).take (Tryz.prog.cellsOf 101)) = some y3 := hf 3 _ rfl
  simp only [k3, k23] at h0 h1 h2 h3
  obtain ⟨a, ha⟩ := int_of (c := c0) (by simpa using h0)
  obtain ⟨a', ha'⟩ := int_of (c := c1) (by simpa using h1)
  obtain ⟨b, b', hb, hb'⟩ := operand_of (c0 := c2) (c1 := c3) (by simpa using h2)
  obtain ⟨d, d', hd, hd'⟩ := operand_of (c0 := c4) (c1 := c5) (by simpa using h3)
  exact ⟨⟨a, a', b, b', d, d'⟩, ha, ha', hb, hb', hd, hd'⟩
theorem add_add (b off i j : Nat) : ((⟨b, off, none⟩ : Addr).add i).add j = ⟨b, off + i + j, none⟩ := by rw [add_none, add_none]
theorem open_gs {n : Nat} {v : Value} {y : DataW H × List MemPlace} (h : DataW.trod enc Tryz.prog w base spare held n 58 [v] = some y) : ∃ (a : Option Addr) (gs : List Gd) (cap : Nat), v = .slice a gs.length cap ∧ gs.length ≤ maxLen ∧ IsGs w a gs ∧ (a = none → cap = 0) := by
 have k58 : Tryz.prog.cellsOf 104 = 5 := by kernel_rfl
 rcases open_slice Tryz.underlying58 h with ⟨hcs, _⟩ | ⟨a, len, cap, m, n', D, Pl, hcs, _, hl, hm, hmm, _, hx⟩
 ·simp at hcs
  exact ⟨none, [], 0, by simpa using hcs, by simp, fun i hi => absurd hi (by simp), fun _ => rfl⟩
 ·simp at hcs
  have hlm : len ≤ m := by rw [hmm]; split <;> omega
  rw [k58] at hx
  have : Inhabited Gd := ⟨g0⟩
  obtain ⟨f, hf⟩ := choose_lt (α := Gd) (p := fun i g => w.cell? ((a.add (i * 5)).add 0) = some (.int .i64 g.k) ∧ w.cell? ((a.add (i * 5)).add 1) = some (.int .i64 g.ak) ∧ w.cell? ((a.add (i * 5)).add 2) = some (.int .i64 g.an) ∧ w.cell? ((a.add (i * 5)).add 3) = some (.int .i64 g.bk) ∧ w.cell? ((a.add (i * 5)).add 4) = some (.int .i64 g.bn)) (n := m) (fun i hi => by
   obtain ⟨cs', h1, h2⟩ := hx i hi
   obtain ⟨_, hlen, hc⟩ := World.cells?_some h1
   match cs', hlen with
   | [c0, c1, c2, c3, c4], _ =>
    obtain ⟨g, rfl, rfl, rfl, rfl, rfl⟩ := guard_of h2
    exact ⟨g, hc 0 (by omega), hc 1 (by omega), hc 2 (by omega), hc 3 (by omega), hc 4 (by omega)⟩)
  obtain ⟨b, off, spot⟩ := a
  refine ⟨some ⟨b, off, spot⟩, (List.range len).map f, cap, by simpa using hcs, by simp; omega, fun i hi => ?_, fun h => by cases h⟩
  have hi' : i < len := by simpa using hi
  have hsp : spot = none := by
   have := World.cell?_spot (hf 0 (by omega)).1
   simpa [Addr.add] using this
  subst hsp
  obtain ⟨e0, e1, e2, e3, e4⟩ := hf i (by omega)
  rw [add_add] at e0 e1 e2 e3 e4
  have eg : ((List.range len).map f).getD i g0 = f i := by simp [List.getD, hi']
  rw [eg]
  exact ⟨b, off, rfl, World.block_lt_of_cell? w _ e0, e0, e1, e2, e3, e4⟩
theorem open_ss {n : Nat} {v : Value} {y : DataW H × List MemPlace} (h : DataW.trod enc Tryz.prog w base spare held n 59 [v] = some y) : ∃ (a : Option Addr) (gs : List St) (cap : Nat), v = .slice a gs.length cap ∧ gs.length ≤ maxLen ∧ IsSs w a gs ∧ (a = none → cap = 0) := by
 have k76 : Tryz.prog.cellsOf 106 = 6 := by kernel_rfl
 rcases open_slice Tryz.underlying59 h with ⟨hcs, _⟩ | ⟨a, len, cap, m, n', D, Pl, hcs, _, hl, hm, hmm, _, hx⟩
 ·simp at hcs
  exact ⟨none, [], 0, by simpa using hcs, by simp, fun i hi => absurd hi (by simp), fun _ => rfl⟩
 ·simp at hcs
  have hlm : len ≤ m := by rw [hmm]; split <;> omega
  rw [k76] at hx
  have : Inhabited St := ⟨s0⟩
  obtain ⟨f, hf⟩ := choose_lt (α := St) (p := fun i g => w.cell? ((a.add (i * 6)).add 0) = some (.int .i64 g.key) ∧ w.cell? ((a.add (i * 6)).add 1) = some (.int .i64 g.op) ∧ w.cell? ((a.add (i * 6)).add 2) = some (.int .i64 g.ak) ∧ w.cell? ((a.add (i * 6)).add 3) = some (.int .i64 g.an) ∧ w.cell? ((a.add (i * 6)).add 4) = some (.int .i64 g.bk) ∧ w.cell? ((a.add (i * 6)).add 5) = some (.int .i64 g.bn)) (n := m) (fun i hi => by
   obtain ⟨cs', h1, h2⟩ := hx i hi
   obtain ⟨_, hlen, hc⟩ := World.cells?_some h1
   match cs', hlen with
   | [c0, c1, c2, c3, c4, c5], _ =>
    obtain ⟨g, rfl, rfl, rfl, rfl, rfl, rfl⟩ := set_of h2
    exact ⟨g, hc 0 (by omega), hc 1 (by omega), hc 2 (by omega), hc 3 (by omega), hc 4 (by omega), hc 5 (by omega)⟩)
  obtain ⟨b, off, spot⟩ := a
  refine ⟨some ⟨b, off, spot⟩, (List.range len).map f, cap, by simpa using hcs, by simp; omega, fun i hi => ?_, fun h => by cases h⟩
  have hi' : i < len := by simpa using hi
  have hsp : spot = none := by
   have := World.cell?_spot (hf 0 (by omega)).1
   simpa [Addr.add] using this
  subst hsp
  obtain ⟨e0, e1, e2, e3, e4, e5⟩ := hf i (by omega)
  rw [add_add] at e0 e1 e2 e3 e4 e5
  have eg : ((List.range len).map f).getD i s0 = f i := by simp [List.getD, hi']
  rw [eg]
  exact ⟨b, off, rfl, World.block_lt_of_cell? w _ e0, e0, e1, e2, e3, e4, e5⟩
theorem open_rs {n : Nat} {v : Value} {y : DataW H × List MemPlace} (h : DataW.trod enc Tryz.prog w base (fun _ => true) held n 25 [v] = some y) : ∃ (a : Option Addr) (zs : List Int) (cap : Nat), v = .slice a zs.length cap ∧ zs.length ≤ maxLen ∧ IsInts w a zs ∧ (a = none → cap = 0) := by
 rcases open_ints Tryz.underlying25 Tryz.underlying3 (by kernel_rfl) h with ⟨hcs, _⟩ | ⟨x, l, c, zs, hcs, _, hl, hm, hz, _, hcell, hwz⟩
 ·simp at hcs
  exact ⟨none, [], 0, by simpa using hcs, by simp, fun i hi => absurd hi (by simp), fun _ => rfl⟩
 ·simp at hcs
  have hzl : (zs.take l).length = l := by rw [List.length_take]; simp at hz; omega
  refine ⟨some x, zs.take l, c, by rw [hzl]; simpa using hcs, by rw [hzl]; omega, fun i hi => ?_, fun h => by cases h⟩
  have hi' : i < l := by omega
  have hc := hcell i (by simp at hz; omega)
  obtain ⟨b, off, spot⟩ := x
  have hspot : spot = none := by simpa [Addr.add] using World.cell?_spot (hcell 0 (by simp at hz; omega))
  subst hspot
  have hc0 : w.cell? ⟨b, off + i, none⟩ = some (.int .i64 (zs.getD i 0)) := by rw [← add_none]; exact hc
  refine ⟨b, off, rfl, World.block_lt_of_cell? w _ hc0, ?_⟩
  rw [hc0]
  simp [List.getD, hi']
end
end Go.Proofs.YtcgpkonfneofdaaGreat
namespace Go.Proofs.YtcgpkonfneofdaaGreat
open Go.ChangeShapes Go.WideShapes Go.ChangeAt Go.RowKit Go.Deep
structure TxA where
 ra : Option Addr
 ga : Option Addr
 sa : Option Addr
 rc : Nat
 gc : Nat
 sc : Nat
 rs : List Int
 gs : List Gd
 ss : List St
def x0 : TxA := ⟨none, none, none, 0, 0, 0, [], [], []⟩
structure IsX (w : World) (x : TxA) : Prop where
 t : IsTx w x.ra x.ga x.sa x.rs x.gs x.ss
 rn : x.ra = none → x.rc = 0
 gn : x.ga = none → x.gc = 0
 sn : x.sa = none → x.sc = 0
theorem IsX.below {w w' : World} {x : TxA} (h : IsX w x) (hb : Below w.heap.size w w') : IsX w' x := ⟨h.t.below hb, h.rn, h.gn, h.sn⟩
def IsTxs (w : World) (a : Option Addr) (l : List TxA) : Prop :=
 ∀ i, i < l.length → ∃ b off, a = some ⟨b, off, none⟩ ∧ b < w.heap.size ∧ w.cell? ⟨b, off + i * 3, none⟩ = some (.slice (l.getD i x0).ra (l.getD i x0).rs.length (l.getD i x0).rc) ∧ w.cell? ⟨b, off + i * 3 + 1, none⟩ = some (.slice (l.getD i x0).ga (l.getD i x0).gs.length (l.getD i x0).gc) ∧ w.cell? ⟨b, off + i * 3 + 2, none⟩ = some (.slice (l.getD i x0).sa (l.getD i x0).ss.length (l.getD i x0).sc) ∧ IsX w (l.getD i x0)
theorem IsTxs.below {w w' : World} {a : Option Addr} {l : List TxA} (h : IsTxs w a l) (hb : Below w.heap.size w w') : IsTxs w' a l := fun i hi => by
 obtain ⟨b, off, ha, hlt, c0, c1, c2, hx⟩ := h i hi
 exact ⟨b, off, ha, Nat.lt_of_lt_of_le hlt hb.size, ext_cell hb c0, ext_cell hb c1, ext_cell hb c2, hx.below hb⟩
def chkX (x : TxA) : Int := chkTx x.rs x.gs x.ss
def chkL (l : List TxA) : Int := if 8 < l.length then 2 else firstNZ (l.map chkX)
def getAt (s : List Int) (k : Int) : Int := s.getD k.toNat 0
def rdOf (s : List Int) (rs : List Int) : List Int := rs.map (getAt s)
def putAll : List Int → List Int → List Int → List Int
 | s, k :: ks, v :: vs => putAll (s.set k.toNat v) ks vs
 | s, _, _ => s
def aDone (s : List Int) (x : TxA) : Bool := allG (rdOf s x.rs) x.gs
def aVals (s : List Int) (x : TxA) : List Int := rdOf s x.rs
def aMade (s : List Int) (x : TxA) : List Int := madeOf (rdOf s x.rs) x.gs x.ss
def aEnd (s : List Int) (x : TxA) : List Int := putAll s (keysOf x.ss) (aMade s x)
def serEnd : List Int → List TxA → List Int
 | s, [] => s
 | s, x :: t => serEnd (aEnd s x) t
def serRes : List Int → List TxA → List (Bool × List Int)
 | _, [] => []
 | s, x :: t => (aDone s x, aVals s x) :: serRes (aEnd s x) t
theorem putAll_len : ∀ (ks s vs : List Int), (putAll s ks vs).length = s.length
 | [], s, vs => by cases vs <;> rfl
 | k :: ks, s, [] => rfl
 | k :: ks, s, v :: vs => by rw [putAll, putAll_len ks]; simp
theorem aEnd_len (s : List Int) (x : TxA) : (aEnd s x).length = s.length := putAll_len _ _ _
theorem serEnd_len : ∀ (l : List TxA) (s : List Int), (serEnd s l).length = s.length
 | [], _ => rfl
 | x :: t, s => by rw [serEnd, serEnd_len t, aEnd_len]
theorem serRes_len : ∀ (l : List TxA) (s : List Int), (serRes s l).length = l.length
 | [], _ => rfl
 | x :: t, s => by rw [serRes, List.length_cons, serRes_len t]; rfl
theorem rdOf_len (s rs : List Int) : (rdOf s rs).length = rs.length := by simp [rdOf]
theorem serEnd_app : ∀ (l m : List TxA) (s : List Int), serEnd s (l ++ m) = serEnd (serEnd s l) m
 | [], _, _ => rfl
 | x :: t, m, s => by rw [List.cons_append, serEnd, serEnd, serEnd_app t]
theorem serRes_app : ∀ (l m : List TxA) (s : List Int), serRes s (l ++ m) = serRes s l ++ serRes (serEnd s l) m
 | [], _, _ => rfl
 | x :: t, m, s => by rw [List.cons_append, serRes, serRes, serRes_app t, serEnd]; rfl
theorem take_x (l : List TxA) (k : Nat) (h : k < l.length) : l.take (k + 1) = l.take k ++ [l.getD k x0] := by
 rw [List.take_succ_eq_append_getElem h]; simp [List.getD, h]
theorem serEnd_step (s : List Int) (l : List TxA) (k : Nat) (h : k < l.length) : serEnd s (l.take (k + 1)) = aEnd (serEnd s (l.take k)) (l.getD k x0) := by
 rw [take_x l k h, serEnd_app]; rfl
theorem serRes_step (s : List Int) (l : List TxA) (k : Nat) (h : k < l.length) : serRes s (l.take (k + 1)) = serRes s (l.take k) ++ [(aDone (serEnd s (l.take k)) (l.getD k x0), aVals (serEnd s (l.take k)) (l.getD k x0))] := by
 rw [take_x l k h, serRes_app]; rfl
theorem putAll_take : ∀ (ks s vs : List Int) (k : Nat), k < ks.length → k < vs.length → putAll s (ks.take (k + 1)) (vs.take (k + 1)) = (putAll s (ks.take k) (vs.take k)).set (ks.getD k 0).toNat (vs.getD k 0)
 | a :: ks, s, v :: vs, 0, _, _ => by simp [putAll]
 | a :: ks, s, v :: vs, k + 1, h, h' => by
  simp only [List.take_succ_cons, putAll]
  have := putAll_take ks (s.set a.toNat v) vs k (by simpa using h) (by simpa using h')
  rw [this]
  simp [List.getD]
 | [], _, _, _, h, _ => absurd h (by simp)
 | _ :: _, _, [], _, _, h => absurd h (by simp)
theorem getD_set_ne (l : List Int) (i j : Nat) (v : Int) (h : i ≠ j) : (l.set i v).getD j 0 = l.getD j 0 := by simp [List.getD, List.getElem?_set_ne h]
theorem putAll_far : ∀ (ks s vs : List Int) (i : Nat), (∀ k ∈ ks, k.toNat ≠ i) → (putAll s ks vs).getD i 0 = s.getD i 0
 | [], s, vs, i, _ => by cases vs <;> rfl
 | k :: ks, s, [], i, _ => rfl
 | k :: ks, s, v :: vs, i, h => by
  rw [putAll, putAll_far ks _ vs i (fun k' hk => h k' (List.mem_cons_of_mem _ hk)), getD_set_ne _ _ _ _ (h k (List.mem_cons_self))]
end Go.Proofs.YtcgpkonfneofdaaGreat
namespace Go.Proofs.YtcgpkonfneofdaaGreat
open Go.RowKit
theorem storeCheck_any (s : List Int) (sa : Option Addr) (sc : Nat) (w : World) :
  Calls Tryz.prog 30 #[.slice sa s.length sc] w fun e w' => e = .returned (.int .i64 (if s.length = 8 then 0 else 1)) ∧ w' = w := by
 by_cases h : s.length = 8
 ·rw [if_pos h]
  have h' : ((s.length : Int) != 8) = false := by simp; omega
  generalize s.length = n at *
  clear h
  go_enter Tryz.func30, Tryz.ntmps30
  go_wp2
  go_ret
  exact ⟨rfl, rfl⟩
 ·rw [if_neg h]
  have h' : ((s.length : Int) != 8) = true := by simp; omega
  generalize s.length = n at *
  clear h
  go_enter Tryz.func30, Tryz.ntmps30
  go_wp2
  go_ret
  exact ⟨rfl, rfl⟩
variable (la : Option Addr) (lc : Nat) (l : List TxA)
set_option maxHeartbeats 1000000 in
theorem orderCheck_any (w : World) (hl : IsTxs w la l) :
  Calls Tryz.prog 54 #[.slice la l.length lc] w fun e w' => e = .returned (.int .i64 (chkL l)) ∧ Below w.heap.size w w' := by
 by_cases h8 : 8 < l.length
 ·have H : Hid (chkL l = 2) := if_pos h8
  clear hl
  go_enter Tryz.func54, Tryz.ntmps54
  go_wp2
  go_ret
  exact ⟨by rw [H.out]; rfl, Below.refl _ _⟩
 ·have H : Hid (chkL l = firstNZ (l.map chkX)) := if_neg h8
  go_enter Tryz.func54, Tryz.ntmps54
  go_wp2
  go_loopw [4, 5, 11] (fun _ _ i wr => ∃ k : Nat, k ≤ l.length ∧ i = .int .i64 k ∧ Hid (firstNZ (l.map chkX) = firstNZ ((l.map chkX).drop k)) ∧ Below w.heap.size w wr) (fun _ _ i _ => l.length - (intOf i).toNat)
  case atStart => exact ⟨0, Nat.zero_le _, rfl, rfl, Below.refl _ _⟩
  case round =>
   obtain ⟨k, hk, rfl, hno, hnx⟩ := hrel
   by_cases hlt : k < l.length
   ·obtain ⟨b, off, rfl, hb, c0, c1, c2, hx⟩ := hl k hlt
    have d0 := ext_cell hnx c0
    have d1 := ext_cell hnx c1
    have d2 := ext_cell hnx c2
    have HX : Hid (IsX wr (l.getD k x0)) := hx.below hnx
    have hs : Hid (firstNZ (l.map chkX) = if chkX (l.getD k x0) = 0 then firstNZ ((l.map chkX).drop (k + 1)) else chkX (l.getD k x0)) := hno.out.trans (firstNZ_step chkX l x0 k hlt)
    clear c0 c1 c2 hx hl hno
    generalize (l.getD k x0) = x at *
    obtain ⟨ra, ga, sa, rc, gc, sc, rs, gs, ss⟩ := x
    simp only at d0 d1 d2
    by_cases hE : chkTx rs gs ss = 0
    ·have HN : Hid (firstNZ (l.map chkX) = firstNZ ((l.map chkX).drop (k + 1))) := hs.out.trans (if_pos hE)
     have HE : Hid (chkTx rs gs ss = 0) := hE
     clear hs hE
     go_wp2_with fail
     refine (txnCheck_any ra ga sa rc gc sc rs gs ss _ (HX.out.t.below (by repeat (first | assumption | exact Below.refl _ _ | refine grow_drew ?_ | refine grow_alloc ?_ _ | refine grow_trans ?_ (by assumption))))).mono ?_
     rintro e W ⟨rfl, hbW⟩
     rw [HE.out]
     have RB : Below w.heap.size w W := grow_trans hnx (grow_trans (grow_alloc (Below.refl _ _) _) hbW)
     clear hbW hnx d0 d1 d2
     go_wp2
     go_roundw
     case rel => exact ⟨k + 1, by omega, by go_num, HN, RB⟩
     case measure => simp [intOf]; omega
    ·have HV : Hid (firstNZ (l.map chkX) = chkTx rs gs ss) := hs.out.trans (if_neg hE)
     have hb' : (chkTx rs gs ss != 0) = true := by simpa using hE
     clear hs hE
     go_wp2_with fail
     refine (txnCheck_any ra ga sa rc gc sc rs gs ss _ (HX.out.t.below (by repeat (first | assumption | exact Below.refl _ _ | refine grow_drew ?_ | refine grow_alloc ?_ _ | refine grow_trans ?_ (by assumption))))).mono ?_
     rintro e W ⟨rfl, hbW⟩
     have RB : Below w.heap.size w W := grow_trans hnx (grow_trans (grow_alloc (Below.refl _ _) _) hbW)
     clear hbW hnx d0 d1 d2
     go_wp2
     go_ret
     exact ⟨by rw [H.out, HV.out]; rfl, RB⟩
   ·have H' : Hid (firstNZ (l.map chkX) = 0) := by
     have h0 := hno.out
     rw [List.drop_of_length_le (by simp; omega)] at h0
     exact h0
    clear hno hl
    go_wp2
    go_ret
    exact ⟨by rw [H.out, H'.out]; rfl, hnx⟩
end Go.Proofs.YtcgpkonfneofdaaGreat
namespace Go.Proofs.YtcgpkonfneofdaaGreat
open Go.RowKit
def planE (m : Int) (l : List TxA) : Int := if m < 1 ∨ 4 < m then 3 else chkL l
def noneE (n : Int) (k : Nat) : Int := if n < 0 ∨ (k : Int) ≤ n then 5 else 0
def pnE (m : Int) (l : List TxA) (n : Int) : Int := firstNZ [planE m l, noneE n l.length]
theorem planE_zero {m : Int} {l : List TxA} (h : planE m l = 0) : 1 ≤ m ∧ m ≤ 4 ∧ chkL l = 0 := by
 unfold planE at h
 by_cases c : m < 1 ∨ 4 < m
 ·rw [if_pos c] at h; omega
 ·rw [if_neg c] at h; exact ⟨by omega, by omega, h⟩
theorem chkL_small {l : List TxA} (h : chkL l = 0) : l.length ≤ 8 := by
 unfold chkL at h
 by_cases c : 8 < l.length
 ·rw [if_pos c] at h; omega
 ·omega
theorem noneE_zero {n : Int} {k : Nat} (h : noneE n k = 0) : 0 ≤ n ∧ n < k := by
 unfold noneE at h
 by_cases c : n < 0 ∨ (k : Int) ≤ n
 ·rw [if_pos c] at h; omega
 ·omega
theorem pnE_zero {m : Int} {l : List TxA} {n : Int} (h : pnE m l n = 0) : planE m l = 0 ∧ noneE n l.length = 0 := by
 have h' := firstNZ_zero _ h
 exact ⟨by simpa using h' 0, by simpa using h' 1⟩
variable (la : Option Addr) (lc : Nat) (l : List TxA) (m n key : Int)
set_option maxHeartbeats 1000000 in
theorem placeCheck_any (w : World) (hl : IsTxs w la l) :
  Calls Tryz.prog 37 #[.agg #[.int .i64 m, .slice la l.length lc]] w fun e w' => e = .returned (.int .i64 (planE m l)) ∧ Below w.heap.size w w' := by
 have HL : Hid (IsTxs (w.alloc (.cells #[.int .i64 m, .slice la l.length lc] 24)) la l) := hl.below (grow_alloc (Below.refl _ _) _)
 clear hl
 by_cases h1 : m < 1
 ·have H : Hid (planE m l = 3) := if_pos (.inl h1)
  go_enter Tryz.func37, Tryz.ntmps37
  go_wp2
  go_ret
  exact ⟨by rw [H.out]; rfl, grow_alloc (Below.refl _ _) _⟩
 ·by_cases h4 : 4 < m
  ·have H : Hid (planE m l = 3) := if_pos (.inr h4)
   go_enter Tryz.func37, Tryz.ntmps37
   go_wp2
   go_ret
   exact ⟨by rw [H.out]; rfl, grow_alloc (Below.refl _ _) _⟩
  ·have H : Hid (planE m l = chkL l) := if_neg (by omega)
   go_enter Tryz.func37, Tryz.ntmps37
   go_wp2_with fail
   refine (orderCheck_any la lc l _ HL.out).mono ?_
   rintro e w1 ⟨rfl, hb⟩
   have B1 : Below w.heap.size w w1 := grow_trans (grow_alloc (Below.refl _ _) _) hb
   clear hb
   go_wp2
   go_ret
   exact ⟨by rw [H.out]; rfl, B1⟩
theorem noneError_any (w : World) :
  Calls Tryz.prog 118 #[.agg #[.int .i64 m, .slice la l.length lc], .int .i64 n] w fun e w' => e = .returned (.int .i64 (noneE n l.length)) ∧ Below w.heap.size w w' := by
 by_cases h1 : n < 0
 ·have H : Hid (noneE n l.length = 5) := if_pos (.inl h1)
  go_enter Tryz.func118, Tryz.ntmps118
  go_wp2
  go_ret
  exact ⟨by rw [H.out]; rfl, grow_alloc (Below.refl _ _) _⟩
 ·by_cases h2 : (l.length : Int) ≤ n
  ·have H : Hid (noneE n l.length = 5) := if_pos (.inr h2)
   go_enter Tryz.func118, Tryz.ntmps118
   go_wp2
   go_ret
   exact ⟨by rw [H.out]; rfl, grow_alloc (Below.refl _ _) _⟩
  ·have H : Hid (noneE n l.length = 0) := if_neg (by omega)
   go_enter Tryz.func118, Tryz.ntmps118
   go_wp2
   go_ret
   exact ⟨by rw [H.out]; rfl, grow_alloc (Below.refl _ _) _⟩
theorem shardOf_any (sh k : Nat) (w : World) (hs : 0 < sh) (hs4 : sh ≤ 4) (hk : k < 8) :
  Calls Tryz.prog 119 #[.agg #[.int .i64 sh, .slice la l.length lc], .int .i64 k] w fun e w' => e = .returned (.int .i64 ((k % sh : Nat) : Int)) ∧ w' = w.alloc (.cells #[.int .i64 sh, .slice la l.length lc] 24) := by
 go_enter Tryz.func119, Tryz.ntmps119
 go_wp2
 go_ret
 exact ⟨by simp, rfl⟩
def shardE (m : Int) (l : List TxA) (key : Int) : Int := firstNZ [planE m l, if key < 0 ∨ 8 ≤ key then 3 else 0]
def shardV (m : Int) (l : List TxA) (key : Int) : Int := if shardE m l key = 0 then key % m else 0
set_option maxHeartbeats 1000000 in
theorem shard_any (w : World) (hl : IsTxs w la l) :
  Calls Tryz.prog 130 #[.agg #[.int .i64 m, .slice la l.length lc], .int .i64 key] w fun e w' => e = .returned (.tuple #[.int .i64 (shardV m l key), .int .i64 (shardE m l key)]) ∧ Below w.heap.size w w' := by
 have hg : Below w.heap.size w (w.alloc (.cells #[.int .i64 m, .slice la l.length lc] 24)) := grow_alloc (Below.refl _ _) _
 have HL : Hid (IsTxs (w.alloc (.cells #[.int .i64 m, .slice la l.length lc] 24)) la l) := hl.below hg
 clear hl
 have HC : Hid (∀ w, IsTxs w la l → Calls Tryz.prog 37 #[.agg #[.int .i64 m, .slice la l.length lc]] w fun e w' => e = .returned (.int .i64 (planE m l)) ∧ Below w.heap.size w w') := fun w h => placeCheck_any la lc l m w h
 by_cases h1 : planE m l = 0
 ·obtain ⟨m1, m4, _⟩ := planE_zero h1
  obtain ⟨sh, rfl⟩ : ∃ sh : Nat, m = sh := ⟨m.toNat, by omega⟩
  have HE : shardE sh l key = if key < 0 ∨ 8 ≤ key then 3 else 0 := by
   unfold shardE
   simp only [firstNZ, if_pos h1]
   by_cases c : key < 0 ∨ 8 ≤ key
   ·rw [if_pos c, if_neg (by omega)]
   ·rw [if_neg c, if_pos rfl]
  have HV : shardV sh l key = if key < 0 ∨ 8 ≤ key then 0 else key % (sh : Int) := by
   unfold shardV
   rw [HE]
   by_cases c : key < 0 ∨ 8 ≤ key
   ·rw [if_pos c, if_pos c, if_neg (by omega)]
   ·rw [if_neg c, if_neg c, if_pos rfl]
  rw [HE, HV]
  rw [h1] at HC
  clear HE HV h1
  by_cases c : key < 0 ∨ 8 ≤ key
  ·rw [if_pos c, if_pos c]
   rcases c with c | c
   ·go_enter Tryz.func130, Tryz.ntmps130
    go_wp2_with fail
    refine (HC.out _ HL.out).mono ?_
    rintro e w1 ⟨rfl, hb⟩
    have B1 : Hid (Below w.heap.size w w1) := grow_trans hg hb
    clear hb
    go_wp2
    go_ret2
    exact ⟨rfl, B1.out⟩
   ·have c' : ¬ key < 0 := by omega
    go_enter Tryz.func130, Tryz.ntmps130
    go_wp2_with fail
    refine (HC.out _ HL.out).mono ?_
    rintro e w1 ⟨rfl, hb⟩
    have B1 : Hid (Below w.heap.size w w1) := grow_trans hg hb
    clear hb
    go_wp2
    go_ret2
    exact ⟨rfl, B1.out⟩
  ·rw [if_neg c, if_neg c]
   obtain ⟨k, rfl⟩ : ∃ k : Nat, key = k := ⟨key.toNat, by omega⟩
   have k8 : k < 8 := by omega
   have s0 : 0 < sh := by omega
   have s4 : sh ≤ 4 := by omega
   have d1 : ¬ (k : Int) < 0 := by omega
   have d2 : ¬ 8 ≤ (k : Int) := by omega
   clear c m1 m4
   go_enter Tryz.func130, Tryz.ntmps130
   go_wp2_with fail
   refine (HC.out _ HL.out).mono ?_
   rintro e w1 ⟨rfl, hb⟩
   have q0 : w1.cell? ⟨w.heap.size, 0, none⟩ = some (.int .i64 sh) := ext_cell hb (by simp)
   have q1 : w1.cell? ⟨w.heap.size, 1, none⟩ = some (.slice la l.length lc) := ext_cell hb (by simp)
   have B1 : Hid (Below w.heap.size w w1) := grow_trans hg hb
   clear hb
   go_wp2_with fail
   refine (shardOf_any la lc l sh k _ s0 s4 k8).mono ?_
   rintro e w' ⟨rfl, hw'⟩
   rw [hw']
   go_wp2
   go_ret2
   exact ⟨by simp, grow_alloc B1.out _⟩
 ·have HE : shardE m l key = planE m l := by
   unfold shardE
   simp only [firstNZ, if_neg h1]
  have HV : shardV m l key = 0 := by
   unfold shardV
   rw [HE, if_neg h1]
  rw [HE, HV]
  generalize planE m l = x at *
  have hx : (x != 0) = true := by simpa using h1
  clear HE HV h1
  go_enter Tryz.func130, Tryz.ntmps130
  go_wp2_with fail
  refine (HC.out _ HL.out).mono ?_
  rintro e w1 ⟨rfl, hb⟩
  have B1 : Hid (Below w.heap.size w w1) := grow_trans hg hb
  clear hb
  go_wp2
  go_ret2
  exact ⟨rfl, B1.out⟩
theorem gotLocks_ok (a : Option Addr) (k c : Nat) (w : World) : Calls Tryz.prog 72 #[.slice a k c, .int .i64 0] w fun e' w' => e' = .returned (.slice a k c) ∧ w' = w.alloc (.cells #[.int .i64 0] 30) := by
 go_enter Tryz.func72, Tryz.ntmps72
 go_wp2_with fail
 refine (leave_zero [0] _ 1 _ (by simp) rfl (errs1 _ _ _ rfl)).mono ?_
 rintro e w' ⟨rfl, rfl⟩
 go_wp2
 go_ret
 exact ⟨rfl, rfl⟩
end Go.Proofs.YtcgpkonfneofdaaGreat
