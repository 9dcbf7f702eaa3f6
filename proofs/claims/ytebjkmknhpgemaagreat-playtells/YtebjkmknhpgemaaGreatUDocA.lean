/-
  
  Conditions: those that each theorem states.
-/
import Derived.Test.YtebjkmknhpgemaaGreatUPlaceC
import Derived.Deep.RegionLaw
import Derived.Deep.DeepCutAuto
import Derived.Deep.AppendLies
set_option maxRecDepth 100000
namespace Go.Proofs.YtebjkmknhpgemaaGreat
open Go.ChangeShapes Go.WideShapes Go.ChangeAt Go.RowKit Go.Deep
section
variable {H : Type} {enc : TypeId × Value → H} {w : World} {base : Nat} {held : Bool}
theorem tx_of {n : Nat} {c0 c1 c2 : Value} {y : DataW H × List MemPlace} (h : DataW.trod enc Tryz.prog w base (fun _ => true) held n 79 [c0, c1, c2] = some y) :
  ∃ x : TxA, c0 = .slice x.ra x.rs.length x.rc ∧ c1 = .slice x.ga x.gs.length x.gc ∧ c2 = .slice x.sa x.ss.length x.sc ∧ IsX w x := by
 obtain ⟨y0, y1, y2, m, _, _, h0, h1, h2⟩ := trod_struct3 Tryz.underlying79 h
 have k22 : Tryz.prog.cellsOf 25 = 1 := by kernel_rfl
 have k23 : Tryz.prog.cellsOf 76 = 1 := by kernel_rfl
 have k24 : Tryz.prog.cellsOf 77 = 1 := by kernel_rfl
 simp only [k22, k23, k24] at h0 h1 h2
 obtain ⟨ra, rs, rc, rfl, lr, ir, rn⟩ := open_rs (v := c0) (by simpa using h0)
 obtain ⟨ga, gs, gc, rfl, lg, ig, gn⟩ := open_gs (v := c1) (by simpa using h1)
 obtain ⟨sa, ss, sc, rfl, ls, is, sn⟩ := open_ss (v := c2) (by simpa using h2)
 exact ⟨⟨ra, ga, sa, rc, gc, sc, rs, gs, ss⟩, rfl, rfl, rfl, ⟨⟨ir, ig, is, lr, lg, ls⟩, rn, gn, sn⟩⟩
theorem open_txs {n : Nat} {v : Value} {y : DataW H × List MemPlace} (h : DataW.trod enc Tryz.prog w base (fun _ => true) held n 22 [v] = some y) : ∃ (a : Option Addr) (l : List TxA) (cap : Nat), v = .slice a l.length cap ∧ l.length ≤ maxLen ∧ l.length ≤ cap ∧ IsTxs w a l ∧ (a = none → cap = 0) := by
 have k26 : Tryz.prog.cellsOf 79 = 3 := by kernel_rfl
 rcases open_slice Tryz.underlying22 h with ⟨hcs, _⟩ | ⟨a, len, cap, m, n', D, Pl, hcs, _, hl, hm, hmm, _, hx⟩
 ·simp at hcs
  exact ⟨none, [], 0, by simpa using hcs, by simp, by simp, fun i hi => absurd hi (by simp), fun _ => rfl⟩
 ·simp at hcs
  have hlm : len ≤ m := by rw [hmm]; split <;> omega
  rw [k26] at hx
  have : Inhabited TxA := ⟨x0⟩
  obtain ⟨f, hf⟩ := choose_lt (α := TxA) (p := fun i x => w.cell? ((a.add (i * 3)).add 0) = some (.slice x.ra x.rs.length x.rc) ∧ w.cell? ((a.add (i * 3)).add 1) = some (.slice x.ga x.gs.length x.gc) ∧ w.cell? ((a.add (i * 3)).add 2) = some (.slice x.sa x.ss.length x.sc) ∧ IsX w x) (n := m) (fun i hi => by
   obtain ⟨cs', h1, h2⟩ := hx i hi
   obtain ⟨_, hlen, hc⟩ := World.cells?_some h1
   match cs', hlen with
   | [c0, c1, c2], _ =>
    obtain ⟨x, rfl, rfl, rfl, hX⟩ := tx_of h2
    exact ⟨x, hc 0 (by omega), hc 1 (by omega), hc 2 (by omega), hX⟩)
  obtain ⟨b, off, spot⟩ := a
  refine ⟨some ⟨b, off, spot⟩, (List.range len).map f, cap, by simpa using hcs, by simp; omega, by simp; omega, fun i hi => ?_, fun h => by cases h⟩
  have hi' : i < len := by simpa using hi
  have hsp : spot = none := by
   have := World.cell?_spot (hf 0 (by omega)).1
   simpa [Addr.add] using this
  subst hsp
  obtain ⟨e0, e1, e2, eX⟩ := hf i (by omega)
  rw [add_add] at e0 e1 e2
  have eg : ((List.range len).map f).getD i x0 = f i := by simp [List.getD, hi']
  rw [eg]
  exact ⟨b, off, rfl, World.block_lt_of_cell? w _ e0, e0, e1, e2, eX⟩
theorem open_zs {b0 : Nat} {v : Value} {d : DataW H} {p : List MemPlace} (hv : Value.okWide Tryz.prog w .any b0 25 v) (h : DataW.Trod enc Tryz.prog w base (fun _ => true) held 25 v d p) :
  ∃ (a : Option Addr) (zs : List Int) (cap : Nat), v = .slice a zs.length cap ∧ zs.length ≤ maxLen ∧ IsInts w a zs ∧ (a = none → cap = 0) := by
 obtain ⟨za, zl, zc, rfl⟩ := okWide_slice Tryz.underlying25 hv
 obtain ⟨fuel, hf⟩ := h
 exact open_rs (by simpa [Value.cells] using hf)
end
theorem mA : ∀ (l : List Int), bH l = 0 → ∀ z ∈ l, 0 ≤ z ∧ z < 8
 | [], _, z, h => by cases h
 | y :: t, h, z, hz => by
  unfold bH at h
  by_cases c : y < 0 ∨ 8 ≤ y
  ·rw [if_pos c] at h; omega
  ·rw [if_neg c] at h
   rcases List.mem_cons.1 hz with rfl | hz
   ·omega
   ·exact mA t h z hz
theorem chk_ranges {rs : List Int} {gs : List Gd} {ss : List St} (h : bF rs gs ss = 0) : bH rs = 0 ∧ bH (aI ss) = 0 := by
 have h' := bJ _ (bZ h).2.1
 exact ⟨by simpa using h' 0, by simpa using h' 1⟩
end Go.Proofs.YtebjkmknhpgemaaGreat
namespace Go.Proofs.YtebjkmknhpgemaaGreat
structure Good (x : TxA) : Prop where
 r : ∀ k ∈ x.rs, 0 ≤ k ∧ k < 8
 s : ∀ k ∈ aI x.ss, 0 ≤ k ∧ k < 8
 n : aI x.ss ≠ []
theorem hI {x : TxA} (h : eB x = 0) : Good x := by
 obtain ⟨ra, ga, sa, rc, gc, sc, rs, gs, ss⟩ := x
 have h' : bF rs gs ss = 0 := h
 obtain ⟨h1, h2⟩ := chk_ranges h'
 obtain ⟨_, _, _, h3⟩ := bK _ _ _ (bZ h').1
 refine ⟨fun k hk => mA _ h1 k hk, fun k hk => mA _ h2 k hk, fun h0 => ?_⟩
 have : (aI ss).length = 0 := by
  have h0' : aI ss = [] := h0
  rw [h0']; rfl
 rw [cH] at this
 omega
def rdX (x : TxA) (k : Nat) : Bool := decide ((k : Int) ∈ x.rs)
def iZ (x : TxA) (k : Nat) : Bool := decide ((k : Int) ∈ aI x.ss)
def iT (x : TxA) (k : Nat) : Bool := rdX x k || iZ x k
def dS (x y : TxA) (k : Nat) : Bool := (iZ x k && (rdX y k || iZ y k)) || (iZ y k && rdX x k)
theorem fU (x y : TxA) (k : Nat) : dS x y k = (iT x k && iT y k && (iZ x k || iZ y k)) := by
 unfold dS iT
 cases iZ x k <;> cases rdX x k <;> cases iZ y k <;> cases rdX y k <;> rfl
theorem clashAt_symm (x y : TxA) (k : Nat) : dS x y k = dS y x k := by
 rw [fU, fU]
 cases iT x k <;> cases iT y k <;> cases iZ x k <;> cases iZ y k <;> rfl
theorem lkTo_mem (rs ks : List Int) (p : Int × Bool) : ∀ n, p ∈ aZ rs ks n ↔ ∃ k : Nat, k < n ∧ ((k : Int) ∈ ks ∨ (k : Int) ∈ rs) ∧ p = ((k : Int), decide ((k : Int) ∈ ks))
 | 0 => by simp [aZ]
 | n + 1 => by
  rw [aZ, List.mem_append, lkTo_mem rs ks p n]
  constructor
  ·rintro (⟨k, hk, h⟩ | h)
   ·exact ⟨k, by omega, h⟩
   ·by_cases c : (n : Int) ∈ ks ∨ (n : Int) ∈ rs
    ·rw [if_pos c, List.mem_singleton] at h
     exact ⟨n, by omega, c, h⟩
    ·rw [if_neg c] at h
     cases h
  ·rintro ⟨k, hk, hc, h⟩
   by_cases e : k = n
   ·subst e
    right
    rw [if_pos hc, List.mem_singleton]
    exact h
   ·exact .inl ⟨k, by omega, hc, h⟩
theorem oN (x : TxA) (k : Nat) : iT x k = true ↔ ((k : Int) ∈ aI x.ss ∨ (k : Int) ∈ x.rs) := by
 unfold iT rdX iZ
 simp [Or.comm]
theorem fN (x : TxA) (p : Int × Bool) : p ∈ aZ x.rs (aI x.ss) 8 ↔ ∃ k : Nat, k < 8 ∧ iT x k = true ∧ p = ((k : Int), iZ x k) := by
 rw [lkTo_mem]
 constructor
 ·rintro ⟨k, hk, hc, h⟩; exact ⟨k, hk, (oN x k).2 hc, h⟩
 ·rintro ⟨k, hk, hc, h⟩; exact ⟨k, hk, (oN x k).1 hc, h⟩
def gX (l : List TxA) (i : Nat) : TxA := l.getD i x0
end Go.Proofs.YtebjkmknhpgemaaGreat
namespace Go.Proofs.YtebjkmknhpgemaaGreat
open Go.RowKit
theorem pW (sh i : Nat) (hi : i < sh) : ∀ ks : List Int, (aQ sh ks).getD i false = ks.any (fun k => k.toNat % sh == i) := by
 have key : ∀ (ks : List Int) (bs : List Bool), bs.length = sh → (ks.foldl (fun bs k => bs.set (k.toNat % sh) true) bs).getD i false = (bs.getD i false || ks.any (fun k => k.toNat % sh == i)) := by
  intro ks
  induction ks with
  | nil => intro bs _; simp
  | cons k t ih =>
   intro bs hb
   rw [List.foldl_cons, ih _ (by simpa using hb), List.any_cons]
   by_cases c : k.toNat % sh = i
   ·subst c
    have e : (bs.set (k.toNat % sh) true).getD (k.toNat % sh) false = true := by simp [List.getD, hb, hi]
    rw [e]
    simp
   ·have e : (bs.set (k.toNat % sh) true).getD i false = bs.getD i false := by simp [List.getD, c]
    rw [e]
    have e2 : (k.toNat % sh == i) = false := by simpa using c
    rw [e2, Bool.false_or]
 intro ks
 unfold aQ
 rw [key ks _ (List.length_replicate)]
 simp [List.getD, hi]
theorem keys_any (L : List (Int × Bool)) (f : Int → Bool) : (aM L).any f = L.any (fun p => f p.1) := by
 unfold aM
 rw [List.any_map]
 rfl
theorem sets_any (L : List (Int × Bool)) (f : Int → Bool) : (aL L).any f = L.any (fun p => f p.1 && p.2) := by
 unfold aL
 rw [List.any_map, List.any_filter]
 congr 1
 funext p
 cases p.2 <;> simp
end Go.Proofs.YtebjkmknhpgemaaGreat
namespace Go.Proofs.YtebjkmknhpgemaaGreat
structure SA where
 st : List Int
 rd : List (List Bool)
 wr : List (List Bool)
 vs : List (List Int)
def ptL (sh : Nat) (x : TxA) : List Bool := aQ sh (aM (aZ x.rs (aI x.ss) 8))
def acL (sh : Nat) (x : TxA) : List Bool := aQ sh (aL (aZ x.rs (aI x.ss) 8))
def fE (sh : Nat) (x : TxA) (k : Nat) : Bool := (ptL sh x).getD k false
def iW (sh : Nat) (x : TxA) (k : Nat) : Bool := (acL sh x).getD k false
theorem ptB_iff {sh : Nat} {x : TxA} {k : Nat} (hk : k < sh) : fE sh x k = true ↔ ∃ c, c < 8 ∧ iT x c = true ∧ c % sh = k := by
 unfold fE ptL
 rw [pW sh k hk, keys_any, List.any_eq_true]
 constructor
 ·rintro ⟨p, hp, h⟩
  obtain ⟨c, h8, hc, rfl⟩ := (fN x p).1 hp
  exact ⟨c, h8, hc, by simpa using h⟩
 ·rintro ⟨c, h8, hc, h⟩
  exact ⟨_, (fN x _).2 ⟨c, h8, hc, rfl⟩, by simpa using h⟩
theorem acB_iff {sh : Nat} {x : TxA} {k : Nat} (hk : k < sh) : iW sh x k = true ↔ ∃ c, c < 8 ∧ iZ x c = true ∧ c % sh = k := by
 unfold iW acL
 rw [pW sh k hk, sets_any, List.any_eq_true]
 constructor
 ·rintro ⟨p, hp, h⟩
  obtain ⟨c, h8, hc, rfl⟩ := (fN x p).1 hp
  simp only [Bool.and_eq_true] at h
  exact ⟨c, h8, h.2, by simpa using h.1⟩
 ·rintro ⟨c, h8, hc, h⟩
  exact ⟨_, (fN x _).2 ⟨c, h8, by simp [iT, hc], rfl⟩, by simp [hc, h]⟩
theorem nQ {sh : Nat} {x : TxA} {k : Nat} (hk : k < sh) (h : iW sh x k = true) : fE sh x k = true := by
 obtain ⟨c, h8, hc, e⟩ := (acB_iff hk).1 h
 exact (ptB_iff hk).2 ⟨c, h8, by simp [iT, hc], e⟩
def bW (R : List (List Bool)) (n k : Nat) : Bool := (R.getD n []).getD k false
def cM (R : List (List Bool)) (n k : Nat) : List (List Bool) := R.set n ((R.getD n []).set k true)
theorem dA {α : Type} (l : List α) (i j : Nat) (v d : α) (h : i < l.length) : (l.set i v).getD j d = if i = j then v else l.getD j d := by
 simp only [List.getD, List.getElem?_set]
 by_cases e : i = j
 ·subst e; simp [h]
 ·simp [e]
theorem lT {R : List (List Bool)} {n k : Nat} (hn : n < R.length) (hk : k < (R.getD n []).length) (m j : Nat) : bW (cM R n k) m j = if n = m ∧ k = j then true else bW R m j := by
 unfold bW cM
 rw [dA R n m _ _ hn]
 by_cases e : n = m
 ·subst e
  rw [if_pos rfl, dA _ k j _ _ hk]
  by_cases e2 : k = j
  ·rw [if_pos e2, if_pos ⟨rfl, e2⟩]
  ·rw [if_neg e2, if_neg (fun h => e2 h.2)]
 ·rw [if_neg e, if_neg (fun h => e h.1)]
theorem kV (R : List (List Bool)) (n k : Nat) : (cM R n k).length = R.length := by simp [cM]
theorem kU (R : List (List Bool)) (n k m : Nat) : ((cM R n k).getD m []).length = (R.getD m []).length := by
 unfold cM
 by_cases hn : n < R.length
 ·rw [dA R n m _ _ hn]
  by_cases e : n = m
  ·subst e; simp
  ·rw [if_neg e]
 ·rw [List.set_eq_of_length_le (by omega)]
def dE (sh : Nat) (l : List TxA) (S : SA) (n : Nat) : Bool := (List.range sh).all fun k => !fE sh (gX l n) k || bW S.rd n k
def aU (sh : Nat) (l : List TxA) (S : SA) (n k : Nat) : Bool := if fE sh (gX l n) k then (if iW sh (gX l n) k then bW S.wr n k else bW S.rd n k) else true
def lU (sh : Nat) (x y : TxA) (k : Nat) : Bool := (List.range 8).any fun c => c % sh == k && dS x y c
def iA (sh : Nat) (l : List TxA) (S : SA) (n k m : Nat) : Bool := (List.range m).any fun a => !aU sh l S a k && lU sh (gX l a) (gX l n) k
def iN (sh : Nat) (l : List TxA) (S : SA) (n k : Nat) : Bool := iA sh l S n k n
def mG (sh : Nat) (l : List TxA) (kind n k : Nat) : Bool := if kind = 2 then iW sh (gX l n) k else fE sh (gX l n) k
def iK (S : SA) (kind n k : Nat) : Bool := if kind = 2 then bW S.wr n k else bW S.rd n k
def fB (sh : Nat) (l : List TxA) (S : SA) (kind n k : Nat) : Bool := if kind = 2 then dE sh l S n else !iN sh l S n k
def dP (sh : Nat) (l : List TxA) (S : SA) (kind n k : Nat) : Bool := mG sh l kind n k && !iK S kind n k && fB sh l S kind n k
theorem eN {sh : Nat} {l : List TxA} {S : SA} {n : Nat} : dE sh l S n = true ↔ ∀ k, k < sh → fE sh (gX l n) k = true → bW S.rd n k = true := by
 unfold dE
 rw [List.all_eq_true]
 constructor
 ·intro h k hk hp
  have := h k (List.mem_range.2 hk)
  rw [hp] at this
  simpa using this
 ·intro h k hk
  have := h k (List.mem_range.1 hk)
  cases hp : fE sh (gX l n) k
  ·simp
  ·simp [this hp]
theorem clK_iff {sh : Nat} {x y : TxA} {k : Nat} : lU sh x y k = true ↔ ∃ c, c < 8 ∧ c % sh = k ∧ dS x y c = true := by
 unfold lU
 rw [List.any_eq_true]
 constructor
 ·rintro ⟨c, hc, h⟩
  simp only [Bool.and_eq_true, beq_iff_eq] at h
  exact ⟨c, List.mem_range.1 hc, h.1, h.2⟩
 ·rintro ⟨c, hc, h1, h2⟩
  exact ⟨c, List.mem_range.2 hc, by simp [h1, h2]⟩
theorem eH {sh : Nat} {l : List TxA} {S : SA} {n k : Nat} : iN sh l S n k = false ↔ ∀ a, a < n → lU sh (gX l a) (gX l n) k = true → aU sh l S a k = true := by
 unfold iN iA
 rw [← Bool.not_eq_true, List.any_eq_true]
 constructor
 ·intro h a ha hc
  cases hg : aU sh l S a k with
  | true => rfl
  | false => exact absurd ⟨a, List.mem_range.2 ha, by simp [hg, hc]⟩ h
 ·rintro h ⟨a, ha, hc⟩
  simp only [Bool.and_eq_true, Bool.not_eq_true'] at hc
  rw [h a (List.mem_range.1 ha) hc.2] at hc
  exact absurd hc.1 (by simp)
def fH (sh : Nat) (l : List TxA) (S : SA) : Bool := decide (S.st.length = 8) && decide (S.rd.length = l.length) && decide (S.wr.length = l.length) && decide (S.vs.length = l.length) && (List.range l.length).all fun n => decide ((S.rd.getD n []).length = sh) && decide ((S.wr.getD n []).length = sh) && decide ((S.vs.getD n []).length = (gX l n).rs.length)
def cG (sh : Nat) (l : List TxA) (S : SA) : Bool := (List.range l.length).all fun n => (List.range sh).all fun k => (!bW S.rd n k || fE sh (gX l n) k) && (!bW S.wr n k || (iW sh (gX l n) k && dE sh l S n))
structure Form (sh : Nat) (l : List TxA) (S : SA) : Prop where
 st : S.st.length = 8
 rd : S.rd.length = l.length
 wr : S.wr.length = l.length
 vs : S.vs.length = l.length
 rn : ∀ n, n < l.length → (S.rd.getD n []).length = sh
 wn : ∀ n, n < l.length → (S.wr.getD n []).length = sh
 vn : ∀ n, n < l.length → (S.vs.getD n []).length = (gX l n).rs.length
structure Truth (sh : Nat) (l : List TxA) (S : SA) : Prop where
 r : ∀ n k, n < l.length → k < sh → bW S.rd n k = true → fE sh (gX l n) k = true
 w : ∀ n k, n < l.length → k < sh → bW S.wr n k = true → iW sh (gX l n) k = true ∧ dE sh l S n = true
theorem dB {sh : Nat} {l : List TxA} {S : SA} : fH sh l S = true ↔ Form sh l S := by
 unfold fH
 simp only [Bool.and_eq_true, decide_eq_true_eq, List.all_eq_true, List.mem_range]
 constructor
 ·rintro ⟨⟨⟨⟨h1, h2⟩, h3⟩, h4⟩, h5⟩
  exact ⟨h1, h2, h3, h4, fun n hn => (h5 n hn).1.1, fun n hn => (h5 n hn).1.2, fun n hn => (h5 n hn).2⟩
 ·intro h
  exact ⟨⟨⟨⟨h.st, h.rd⟩, h.wr⟩, h.vs⟩, fun n hn => ⟨⟨h.rn n hn, h.wn n hn⟩, h.vn n hn⟩⟩
theorem truthB_iff {sh : Nat} {l : List TxA} {S : SA} : cG sh l S = true ↔ Truth sh l S := by
 unfold cG
 simp only [Bool.and_eq_true, List.all_eq_true, List.mem_range, Bool.or_eq_true, Bool.not_eq_true']
 constructor
 ·intro h
  refine ⟨fun n k hn hk hr => ?_, fun n k hn hk hw => ?_⟩
  ·rcases (h n hn k hk).1 with h1 | h1
   ·rw [hr] at h1; cases h1
   ·exact h1
  ·rcases (h n hn k hk).2 with h1 | h1
   ·rw [hw] at h1; cases h1
   ·exact h1
 ·intro h n hn k hk
  refine ⟨?_, ?_⟩
  ·cases e : bW S.rd n k
   ·exact .inl rfl
   ·exact .inr (h.r n k hn hk e)
  ·cases e : bW S.wr n k
   ·exact .inl rfl
   ·exact .inr (h.w n k hn hk e)
def eF (m : Int) (l : List TxA) (S : SA) : Int := if aP m l = 0 then (if fH m.toNat l S && cG m.toNat l S then 0 else 1) else aP m l
def cS (sh k : Nat) (s : List Int) : List Int → List Int → List Int
 | r :: rs, v :: vs => (if r.toNat % sh = k then getAt s r else v) :: cS sh k s rs vs
 | _, vs => vs
def bP (sh k : Nat) : List Int → List Int → List Int → List Int
 | s, key :: ks, v :: vs => bP sh k (if key.toNat % sh = k then s.set key.toNat v else s) ks vs
 | s, _, _ => s
def fG (sh : Nat) (l : List TxA) (S : SA) (n k : Nat) : SA := { S with rd := cM S.rd n k, vs := S.vs.set n (cS sh k S.st (gX l n).rs (S.vs.getD n [])) }
def dI (sh : Nat) (l : List TxA) (S : SA) (n k : Nat) : SA := { S with wr := cM S.wr n k, st := bP sh k S.st (aI (gX l n).ss) (aY (S.vs.getD n []) (gX l n).gs (gX l n).ss) }
def doX (sh : Nat) (l : List TxA) (S : SA) (kind n k : Nat) : SA := if kind = 2 then dI sh l S n k else fG sh l S n k
theorem lB (sh k : Nat) (s : List Int) : ∀ (rs vs : List Int), (cS sh k s rs vs).length = vs.length
 | [], vs => by cases vs <;> rfl
 | r :: rs, [] => rfl
 | r :: rs, v :: vs => by simp [cS, lB sh k s rs vs]
theorem mixV_get (sh k : Nat) (s : List Int) : ∀ (rs vs : List Int) (i : Nat), i < rs.length → i < vs.length → (cS sh k s rs vs).getD i 0 = if (rs.getD i 0).toNat % sh = k then getAt s (rs.getD i 0) else vs.getD i 0
 | [], _, i, h, _ => by simp at h
 | r :: rs, [], i, _, h => by simp at h
 | r :: rs, v :: vs, 0, _, _ => by simp [cS]
 | r :: rs, v :: vs, i + 1, h, h' => by
  have := mixV_get sh k s rs vs i (by simpa using h) (by simpa using h')
  simpa [cS] using this
theorem pR (sh k : Nat) : ∀ (ks s vs : List Int), (bP sh k s ks vs).length = s.length
 | [], s, vs => by cases vs <;> rfl
 | key :: ks, s, [] => rfl
 | key :: ks, s, v :: vs => by
  rw [bP, pR sh k ks]
  by_cases h : key.toNat % sh = k
  ·rw [if_pos h]; simp
  ·rw [if_neg h]
theorem pS (sh k c : Nat) : ∀ (ks s vs : List Int), (∀ key ∈ ks, key.toNat % sh = k → key.toNat ≠ c) → (bP sh k s ks vs).getD c 0 = s.getD c 0
 | [], s, vs, _ => by cases vs <;> rfl
 | key :: ks, s, [], _ => rfl
 | key :: ks, s, v :: vs, h => by
  rw [bP, pS sh k c ks _ vs (fun k' hk => h k' (List.mem_cons_of_mem _ hk))]
  by_cases e : key.toNat % sh = k
  ·rw [if_pos e, fT _ _ _ _ (h key List.mem_cons_self e)]
  ·rw [if_neg e]
theorem oC (sh k c : Nat) (hc : c % sh = k) : ∀ (ks s s' vs : List Int), s.length = s'.length → s.getD c 0 = s'.getD c 0 → (bP sh k s ks vs).getD c 0 = (jC s' ks vs).getD c 0
 | [], s, s', vs, _, h => by cases vs <;> exact h
 | key :: ks, s, s', [], _, h => h
 | key :: ks, s, s', v :: vs, hl, h => by
  rw [bP, jC]
  by_cases e : key.toNat % sh = k
  ·rw [if_pos e]
   refine oC sh k c hc ks _ _ vs (by simpa using hl) ?_
   by_cases ec : key.toNat = c
   ·subst ec
    simp only [List.getD, List.getElem?_set, hl]
    by_cases hh : key.toNat < s'.length
    ·simp [hh]
    ·simp [hh]
   ·rw [fT _ _ _ _ ec, fT _ _ _ _ ec, h]
  ·rw [if_neg e]
   refine oC sh k c hc ks _ _ vs (by simpa using hl) ?_
   have ec : key.toNat ≠ c := fun ec => e (by rw [ec]; exact hc)
   rw [fT _ _ _ _ ec, h]
def cT (sh : Nat) (l : List TxA) (S : SA) (kind n : Nat) (j : Nat) : List (Nat × Nat × Nat) := ((List.range j).filter (dP sh l S kind n)).map fun k => (kind, n, k)
def cY (sh : Nat) (l : List TxA) (S : SA) (kind : Nat) (m : Nat) : List (Nat × Nat × Nat) := (List.range m).flatMap fun n => cT sh l S kind n sh
def gC (sh : Nat) (l : List TxA) (S : SA) (kind : Nat) : List (Nat × Nat × Nat) := cY sh l S kind l.length
def bD (sh : Nat) (l : List TxA) (S : SA) : List (Nat × Nat × Nat) := gC sh l S 1 ++ gC sh l S 2
theorem qL (sh : Nat) (l : List TxA) (S : SA) (kind n j : Nat) : cT sh l S kind n (j + 1) = cT sh l S kind n j ++ (if dP sh l S kind n j then [(kind, n, j)] else []) := by
 unfold cT
 rw [List.range_succ, List.filter_append, List.map_append]
 cases h : dP sh l S kind n j <;> simp [h]
theorem mM (sh : Nat) (l : List TxA) (S : SA) (kind m : Nat) : cY sh l S kind (m + 1) = cY sh l S kind m ++ cT sh l S kind m sh := by
 unfold cY
 rw [List.range_succ, List.flatMap_append]
 simp
theorem oX (sh : Nat) (l : List TxA) (S : SA) (kind n j : Nat) : (cT sh l S kind n j).length ≤ j := by
 unfold cT
 rw [List.length_map]
 exact Nat.le_trans (List.length_filter_le _ _) (by simp)
theorem fV (sh : Nat) (l : List TxA) (S : SA) (kind : Nat) : ∀ m, (cY sh l S kind m).length ≤ m * sh
 | 0 => by simp [cY]
 | m + 1 => by
  have h1 := fV sh l S kind m
  have h2 := oX sh l S kind m sh
  rw [mM, List.length_append, Nat.succ_mul]
  omega
theorem fD {sh : Nat} {l : List TxA} {S : SA} {x : Nat × Nat × Nat} : x ∈ bD sh l S ↔ (x.1 = 1 ∨ x.1 = 2) ∧ x.2.1 < l.length ∧ x.2.2 < sh ∧ dP sh l S x.1 x.2.1 x.2.2 = true := by
 obtain ⟨kd, n, k⟩ := x
 have key : ∀ kind, ((kd, n, k) ∈ gC sh l S kind ↔ kd = kind ∧ n < l.length ∧ k < sh ∧ dP sh l S kind n k = true) := by
  intro kind
  unfold gC cY cT
  simp only [List.mem_flatMap, List.mem_range, List.mem_map, List.mem_filter, Prod.mk.injEq]
  constructor
  ·rintro ⟨m, hm, j, ⟨hj, h⟩, rfl, rfl, rfl⟩; exact ⟨rfl, hm, hj, h⟩
  ·rintro ⟨rfl, hn, hk, h⟩; exact ⟨n, hn, k, ⟨hk, h⟩, rfl, rfl, rfl⟩
 unfold bD
 rw [List.mem_append, key 1, key 2]
 constructor
 ·rintro (⟨rfl, h⟩ | ⟨rfl, h⟩)
  ·exact ⟨.inl rfl, h⟩
  ·exact ⟨.inr rfl, h⟩
 ·rintro ⟨rfl | rfl, h⟩
  ·exact .inl ⟨rfl, h⟩
  ·exact .inr ⟨rfl, h⟩
def eZ (sh : Nat) (l : List TxA) (S : SA) (n : Nat) : Bool := (List.range n).all fun m => (List.range sh).all fun k => aU sh l S m k
def cD (sh : Nat) (l : List TxA) (S : SA) : Bool := eZ sh l S l.length
theorem iF {sh : Nat} {l : List TxA} {S : SA} : cD sh l S = true ↔ ∀ n k, n < l.length → k < sh → aU sh l S n k = true := by
 unfold cD eZ
 simp only [List.all_eq_true, List.mem_range]
 exact ⟨fun h n k hn hk => h n hn k hk, fun h n hn k hk => h n k hn hk⟩
def dF (sh : Nat) (l : List TxA) (S : SA) (kind n k : Int) : Int :=
 if kind = 1 ∨ kind = 2 then
  if n < 0 ∨ (l.length : Int) ≤ n ∨ k < 0 ∨ (sh : Int) ≤ k then 5
  else if mG sh l kind.toNat n.toNat k.toNat then (if iK S kind.toNat n.toNat k.toNat then 7 else if fB sh l S kind.toNat n.toNat k.toNat then 0 else 6)
  else 5
 else 4
end Go.Proofs.YtebjkmknhpgemaaGreat
namespace Go.Proofs.YtebjkmknhpgemaaGreat
theorem oI {sh : Nat} {l : List TxA} {S : SA} {kind n k : Nat} (h : dP sh l S kind n k = true) : mG sh l kind n k = true ∧ iK S kind n k = false ∧ fB sh l S kind n k = true := by
 unfold dP at h
 simp only [Bool.and_eq_true, Bool.not_eq_true'] at h
 exact ⟨h.1.1, h.1.2, h.2⟩
theorem jP {sh : Nat} {l : List TxA} {S : SA} {kind n k : Nat} (h1 : mG sh l kind n k = true) (h2 : iK S kind n k = false) (h3 : fB sh l S kind n k = true) : dP sh l S kind n k = true := by
 unfold dP
 simp [h1, h2, h3]
theorem form_read {sh : Nat} {l : List TxA} {S : SA} {n k : Nat} (h : Form sh l S) (hn : n < l.length) : Form sh l (fG sh l S n k) := by
 refine ⟨h.st, ?_, h.wr, ?_, fun m hm => ?_, h.wn, fun m hm => ?_⟩
 ·show (cM S.rd n k).length = _
  rw [kV]; exact h.rd
 ·show (S.vs.set n _).length = _
  rw [List.length_set]; exact h.vs
 ·show ((cM S.rd n k).getD m []).length = _
  rw [kU]; exact h.rn m hm
 ·show ((S.vs.set n _).getD m []).length = _
  rw [dA _ _ _ _ _ (by rw [h.vs]; exact hn)]
  by_cases e : n = m
  ·subst e
   rw [if_pos rfl, lB]; exact h.vn n hn
  ·rw [if_neg e]; exact h.vn m hm
theorem form_write {sh : Nat} {l : List TxA} {S : SA} {n k : Nat} (h : Form sh l S) : Form sh l (dI sh l S n k) := by
 refine ⟨?_, h.rd, ?_, h.vs, h.rn, fun m hm => ?_, h.vn⟩
 ·show (bP _ _ _ _ _).length = _
  rw [pR]; exact h.st
 ·show (cM S.wr n k).length = _
  rw [kV]; exact h.wr
 ·show ((cM S.wr n k).getD m []).length = _
  rw [kU]; exact h.wn m hm
theorem gY {sh : Nat} {l : List TxA} {S : SA} {n k : Nat} (h : Form sh l S) (hn : n < l.length) (hk : k < sh) (m j : Nat) : bW (fG sh l S n k).rd m j = if n = m ∧ k = j then true else bW S.rd m j :=
 lT (by rw [h.rd]; exact hn) (by rw [h.rn n hn]; exact hk) m j
theorem eO {sh : Nat} {l : List TxA} {S : SA} {n k : Nat} (h : Form sh l S) (hn : n < l.length) (hk : k < sh) (m j : Nat) : bW (dI sh l S n k).wr m j = if n = m ∧ k = j then true else bW S.wr m j :=
 lT (by rw [h.wr]; exact hn) (by rw [h.wn n hn]; exact hk) m j
theorem rd_up {sh : Nat} {l : List TxA} {S : SA} {n k : Nat} (h : Form sh l S) (hn : n < l.length) (hk : k < sh) {m j : Nat} (hr : bW S.rd m j = true) : bW (fG sh l S n k).rd m j = true := by
 rw [gY h hn hk]; split <;> first | rfl | exact hr
theorem wr_up {sh : Nat} {l : List TxA} {S : SA} {n k : Nat} (h : Form sh l S) (hn : n < l.length) (hk : k < sh) {m j : Nat} (hr : bW S.wr m j = true) : bW (dI sh l S n k).wr m j = true := by
 rw [eO h hn hk]; split <;> first | rfl | exact hr
theorem oZ {sh : Nat} {l : List TxA} {S : SA} {n k : Nat} (h : Form sh l S) (hn : n < l.length) (hk : k < sh) {m : Nat} (hr : dE sh l S m = true) : dE sh l (fG sh l S n k) m = true :=
 eN.2 fun j hj hp => rd_up h hn hk (eN.1 hr j hj hp)
theorem truth_read {sh : Nat} {l : List TxA} {S : SA} {n k : Nat} (h : Form sh l S) (t : Truth sh l S) (hn : n < l.length) (hk : k < sh) (hp : fE sh (gX l n) k = true) : Truth sh l (fG sh l S n k) := by
 refine ⟨fun m j hm hj hr => ?_, fun m j hm hj hw => ?_⟩
 ·rw [gY h hn hk] at hr
  by_cases e : n = m ∧ k = j
  ·obtain ⟨rfl, rfl⟩ := e; exact hp
  ·rw [if_neg e] at hr; exact t.r m j hm hj hr
 ·obtain ⟨h1, h2⟩ := t.w m j hm hj hw
  exact ⟨h1, oZ h hn hk h2⟩
theorem truth_write {sh : Nat} {l : List TxA} {S : SA} {n k : Nat} (h : Form sh l S) (t : Truth sh l S) (hn : n < l.length) (hk : k < sh) (ha : iW sh (gX l n) k = true) (hr : dE sh l S n = true) : Truth sh l (dI sh l S n k) := by
 refine ⟨t.r, fun m j hm hj hw => ?_⟩
 rw [eO h hn hk] at hw
 by_cases e : n = m ∧ k = j
 ·obtain ⟨rfl, rfl⟩ := e; exact ⟨ha, hr⟩
 ·rw [if_neg e] at hw; exact t.w m j hm hj hw
theorem lC {sh : Nat} {l : List TxA} {S : SA} {n k : Nat} (h : dP sh l S 1 n k = true) : fE sh (gX l n) k = true ∧ bW S.rd n k = false ∧ iN sh l S n k = false := by
 obtain ⟨h1, h2, h3⟩ := oI h
 exact ⟨h1, h2, by simpa [fB] using h3⟩
theorem jO {sh : Nat} {l : List TxA} {S : SA} {n k : Nat} (h : dP sh l S 2 n k = true) : iW sh (gX l n) k = true ∧ bW S.wr n k = false ∧ dE sh l S n = true := oI h
theorem mI {sh : Nat} {l : List TxA} {S : SA} (t : Truth sh l S) {n k : Nat} (hn : n < l.length) (hk : k < sh) (hp : fE sh (gX l n) k = true) (hg : aU sh l S n k = true) : bW S.rd n k = true := by
 unfold aU at hg
 rw [if_pos hp] at hg
 cases ha : iW sh (gX l n) k
 ·rw [ha] at hg; simpa using hg
 ·rw [ha, if_pos rfl] at hg
  exact eN.1 (t.w n k hn hk hg).2 k hk hp
theorem least {P : Nat → Prop} : ∀ n, P n → ∃ m, P m ∧ ∀ j, j < m → ¬ P j := by
 intro n
 induction n using Nat.strongRecOn with
 | ind n ih =>
  intro h
  by_cases e : ∃ j, j < n ∧ P j
  ·obtain ⟨j, hj, hp⟩ := e; exact ih j hj hp
  ·exact ⟨n, h, fun j hj hp => e ⟨j, hj, hp⟩⟩
theorem some_can {sh : Nat} {l : List TxA} {S : SA} (h : cD sh l S = false) : bD sh l S ≠ [] := by
 have h1 : ∃ n, n < l.length ∧ ∃ k, k < sh ∧ aU sh l S n k = false := by
  apply Classical.byContradiction
  intro hc
  have : cD sh l S = true := iF.2 fun n k hn hk => by
   cases e : aU sh l S n k with
   | true => rfl
   | false => exact absurd ⟨n, hn, k, hk, e⟩ hc
  rw [this] at h; cases h
 obtain ⟨n0, hP⟩ := h1
 obtain ⟨n, ⟨hn, k, hk, hg⟩, hmin⟩ := least (P := fun n => n < l.length ∧ ∃ k, k < sh ∧ aU sh l S n k = false) n0 hP
 have hp : fE sh (gX l n) k = true := by
  unfold aU at hg
  cases hp : fE sh (gX l n) k with
  | true => rfl
  | false => rw [hp] at hg; simp at hg
 have hfree : ∀ j, j < sh → iN sh l S n j = false := fun j hj => eH.2 fun a ha _ => by
  cases e : aU sh l S a j with
  | true => rfl
  | false => exact absurd ⟨by omega, j, hj, e⟩ (hmin a ha)
 by_cases hr : dE sh l S n = true
 ·have hrk := eN.1 hr k hk hp
  unfold aU at hg
  rw [if_pos hp] at hg
  cases ha : iW sh (gX l n) k with
  | false => rw [ha] at hg; simp [hrk] at hg
  | true =>
   rw [ha, if_pos rfl] at hg
   exact List.ne_nil_of_mem (fD.2 ⟨.inr rfl, hn, hk, jP (kind := 2) ha hg hr⟩ : (2, n, k) ∈ bD sh l S)
 ·have : ∃ j, j < sh ∧ fE sh (gX l n) j = true ∧ bW S.rd n j = false := by
   apply Classical.byContradiction
   intro hc
   refine hr (eN.2 fun j hj hpj => ?_)
   cases e : bW S.rd n j with
   | true => rfl
   | false => exact absurd ⟨j, hj, hpj, e⟩ hc
  obtain ⟨j, hj, hpj, hrj⟩ := this
  exact List.ne_nil_of_mem (fD.2 ⟨.inl rfl, hn, hj, jP (kind := 1) hpj hrj (by simp [fB, hfree j hj])⟩ : (1, n, j) ∈ bD sh l S)
def c1 (f : Nat → Bool) : Nat → Nat
 | 0 => 0
 | j + 1 => c1 f j + (if f j then 1 else 0)
def c2 (f : Nat → Nat → Bool) (sh : Nat) : Nat → Nat
 | 0 => 0
 | n + 1 => c2 f sh n + c1 (f n) sh
theorem lQ (f g : Nat → Bool) : ∀ J, (∀ j, j < J → f j = g j) → c1 f J = c1 g J
 | 0, _ => rfl
 | J + 1, h => by rw [c1, c1, lQ f g J (fun j hj => h j (by omega)), h J (by omega)]
theorem iL (f g : Nat → Nat → Bool) (sh : Nat) : ∀ N, (∀ n j, n < N → j < sh → f n j = g n j) → c2 f sh N = c2 g sh N
 | 0, _ => rfl
 | N + 1, h => by rw [c2, c2, iL f g sh N (fun n j hn hj => h n j (by omega) hj), lQ _ _ sh (fun j hj => h N j (by omega) hj)]
theorem c1_one (f g : Nat → Bool) (k : Nat) (hf : f k = false) (hg : g k = true) : ∀ J, k < J → (∀ j, j < J → j ≠ k → f j = g j) → c1 g J = c1 f J + 1
 | 0, h, _ => by omega
 | J + 1, h, he => by
  rw [c1, c1]
  by_cases e : k = J
  ·subst e
   rw [hf, hg, lQ g f k (fun j hj => (he j (by omega) (by omega)).symm)]
   simp
  ·rw [c1_one f g k hf hg J (by omega) (fun j hj hn => he j (by omega) hn), he J (by omega) (fun h => e h.symm)]
   omega
theorem c2_one (f g : Nat → Nat → Bool) (sh m k : Nat) (hk : k < sh) (hf : f m k = false) (hg : g m k = true) : ∀ N, m < N → (∀ n j, n < N → j < sh → ¬ (n = m ∧ j = k) → f n j = g n j) → c2 g sh N = c2 f sh N + 1
 | 0, h, _ => by omega
 | N + 1, h, he => by
  rw [c2, c2]
  by_cases e : m = N
  ·subst e
   rw [iL g f sh m (fun n j hn hj => (he n j (by omega) hj (fun h => by omega)).symm), c1_one (f m) (g m) k hf hg sh hk (fun j hj hn => he m j (by omega) hj (fun h => hn h.2))]
   omega
  ·rw [c2_one f g sh m k hk hf hg N (by omega) (fun n j hn hj hh => he n j (by omega) hj hh), lQ (g N) (f N) sh (fun j hj => (he N j (by omega) hj (fun h => e h.1.symm)).symm)]
   omega
theorem c1_le (f : Nat → Bool) : ∀ J, c1 f J ≤ J
 | 0 => Nat.le_refl _
 | J + 1 => by
  have := c1_le f J
  rw [c1]
  split <;> omega
theorem c2_le (f : Nat → Nat → Bool) (sh : Nat) : ∀ N, c2 f sh N ≤ N * sh
 | 0 => by simp [c2]
 | N + 1 => by
  have h1 := c2_le f sh N
  have h2 := c1_le (f N) sh
  rw [c2, Nat.succ_mul]
  omega
def cnt (sh : Nat) (l : List TxA) (S : SA) : Nat := c2 (bW S.rd) sh l.length + c2 (bW S.wr) sh l.length
def aN (sh : Nat) (l : List TxA) : Nat := c2 (fun n k => fE sh (gX l n) k) sh l.length + c2 (fun n k => iW sh (gX l n) k) sh l.length
theorem cnt_do {sh : Nat} {l : List TxA} {S : SA} {kind n k : Nat} (hkd : kind = 1 ∨ kind = 2) (h : Form sh l S) (hn : n < l.length) (hk : k < sh) (hm : dP sh l S kind n k = true) : cnt sh l (doX sh l S kind n k) = cnt sh l S + 1 := by
 rcases hkd with rfl | rfl
 ·obtain ⟨_, h2, _⟩ := lC hm
  show c2 (bW (fG sh l S n k).rd) sh l.length + c2 (bW S.wr) sh l.length = _
  rw [c2_one (bW S.rd) (bW (fG sh l S n k).rd) sh n k hk h2 (by rw [gY h hn hk, if_pos ⟨rfl, rfl⟩]) l.length hn (fun m j _ _ hh => by rw [gY h hn hk, if_neg (fun e => hh ⟨e.1.symm, e.2.symm⟩)])]
  unfold cnt; omega
 ·obtain ⟨_, h2, _⟩ := jO hm
  show c2 (bW S.rd) sh l.length + c2 (bW (dI sh l S n k).wr) sh l.length = _
  rw [c2_one (bW S.wr) (bW (dI sh l S n k).wr) sh n k hk h2 (by rw [eO h hn hk, if_pos ⟨rfl, rfl⟩]) l.length hn (fun m j _ _ hh => by rw [eO h hn hk, if_neg (fun e => hh ⟨e.1.symm, e.2.symm⟩)])]
  unfold cnt; omega
theorem cnt_le (sh : Nat) (l : List TxA) (S : SA) : cnt sh l S ≤ 2 * (l.length * sh) := by
 have h1 := c2_le (bW S.rd) sh l.length
 have h2 := c2_le (bW S.wr) sh l.length
 unfold cnt; omega
theorem cnt_over {sh : Nat} {l : List TxA} {S : SA} (t : Truth sh l S) (h : cD sh l S = true) : cnt sh l S = aN sh l := by
 have hr : ∀ n j, n < l.length → j < sh → bW S.rd n j = fE sh (gX l n) j := fun n j hn hj => by
  cases hp : fE sh (gX l n) j with
  | true => exact mI t hn hj hp (iF.1 h n j hn hj)
  | false =>
   cases e : bW S.rd n j with
   | false => rfl
   | true => rw [t.r n j hn hj e] at hp; cases hp
 have hw : ∀ n j, n < l.length → j < sh → bW S.wr n j = iW sh (gX l n) j := fun n j hn hj => by
  cases ha : iW sh (gX l n) j with
  | true =>
   have hg := iF.1 h n j hn hj
   unfold aU at hg
   rw [if_pos (nQ hj ha), ha, if_pos rfl] at hg
   exact hg
  | false =>
   cases e : bW S.wr n j with
   | false => rfl
   | true => rw [(t.w n j hn hj e).1] at ha; cases ha
 unfold cnt aN
 rw [iL _ _ sh l.length hr, iL _ _ sh l.length hw]
def fF (s0 : List Int) (l : List TxA) (n : Nat) : List Int := cV s0 (l.take n)
structure Inv (sh : Nat) (l : List TxA) (s0 : List Int) (S : SA) : Prop where
 f : Form sh l S
 t : Truth sh l S
 ahead : ∀ n k, n < l.length → k < sh → bW S.rd n k = true → ∀ m, m < n → lU sh (gX l m) (gX l n) k = true → aU sh l S m k = true
 vals : ∀ n k, n < l.length → k < sh → bW S.rd n k = true → ∀ i, i < (gX l n).rs.length → ((gX l n).rs.getD i 0).toNat % sh = k → (S.vs.getD n []).getD i 0 = getAt (fF s0 l n) ((gX l n).rs.getD i 0)
 store : ∀ c j, c < 8 → j ≤ l.length → (∀ n, n < l.length → iZ (gX l n) c = true → (bW S.wr n (c % sh) = true ↔ n < j)) → S.st.getD c 0 = (fF s0 l j).getD c 0
theorem oA (s0 : List Int) (l : List TxA) (n : Nat) (h : n < l.length) : fF s0 l (n + 1) = aEnd (fF s0 l n) (gX l n) := mP s0 l n h
theorem qM {x : TxA} {c : Nat} (g : Good x) : iZ x c = true ↔ ∃ key ∈ aI x.ss, key.toNat = c := by
 unfold iZ
 rw [decide_eq_true_eq]
 constructor
 ·intro h; exact ⟨_, h, by omega⟩
 ·rintro ⟨key, hk, e⟩
  have := g.s key hk
  have : (c : Int) = key := by omega
  rw [this]; exact hk
theorem oB {l : List TxA} (hg : ∀ n, n < l.length → Good (gX l n)) (s0 : List Int) (c n : Nat) : ∀ j, n ≤ j → j ≤ l.length → (∀ m, n ≤ m → m < j → iZ (gX l m) c = false) → (fF s0 l j).getD c 0 = (fF s0 l n).getD c 0
 | 0, h, _, _ => by
  have : n = 0 := by omega
  subst this; rfl
 | j + 1, h, hj, hw => by
  by_cases e : n = j + 1
  ·subst e; rfl
  ·rw [oA s0 l j (by omega)]
   unfold aEnd
   rw [kI _ _ _ _ (fun key hk ek => by
    have := (qM (hg j (by omega))).2 ⟨key, hk, ek⟩
    rw [hw j (by omega) (by omega)] at this; cases this)]
   exact oB hg s0 c n j (by omega) (by omega) (fun m h1 h2 => hw m h1 (by omega))
theorem clK_of {sh : Nat} {x y : TxA} {c : Nat} (h8 : c < 8) (h : dS x y c = true) : lU sh x y (c % sh) = true := clK_iff.2 ⟨c, h8, rfl, h⟩
theorem clash_wr {x y : TxA} {c : Nat} (h : iZ x c = true) (h' : iT y c = true) : dS x y c = true := by
 rw [fU]; simp [iT, h] ; simpa [iT] using h'
theorem clash_rw {x y : TxA} {c : Nat} (h : iT x c = true) (h' : iZ y c = true) : dS x y c = true := by
 rw [clashAt_symm]; exact clash_wr h' h
theorem gone_wr {sh : Nat} {l : List TxA} {S : SA} {m c : Nat} (hsh : 0 < sh) (h8 : c < 8) (hw : iZ (gX l m) c = true) (hg : aU sh l S m (c % sh) = true) : bW S.wr m (c % sh) = true := by
 have ha : iW sh (gX l m) (c % sh) = true := (acB_iff (Nat.mod_lt _ hsh)).2 ⟨c, h8, hw, rfl⟩
 unfold aU at hg
 rw [if_pos (nQ (Nat.mod_lt _ hsh) ha), ha, if_pos rfl] at hg
 exact hg
theorem wr_rd {sh : Nat} {l : List TxA} {S : SA} (t : Truth sh l S) {m k : Nat} (hm : m < l.length) (hk : k < sh) (hw : bW S.wr m k = true) : bW S.rd m k = true := by
 obtain ⟨h1, h2⟩ := t.w m k hm hk hw
 exact eN.1 h2 k hk (nQ hk h1)
theorem mU {sh : Nat} {l : List TxA} {s0 : List Int} {S : SA} (hsh : 0 < sh) (I : Inv sh l s0 S) {n m c : Nat} (h8 : c < 8) (hnm : n < m) (hm : m < l.length) (hn : iT (gX l n) c = true) (hw : iZ (gX l m) c = true) (hg : aU sh l S n (c % sh) = false) : bW S.wr m (c % sh) = false := by
 cases e : bW S.wr m (c % sh) with
 | false => rfl
 | true =>
  have hk : c % sh < sh := Nat.mod_lt _ hsh
  have := I.ahead m (c % sh) hm hk (wr_rd I.t hm hk e) n hnm (clK_of h8 (clash_rw hn hw))
  rw [this] at hg; cases hg
theorem nH {sh : Nat} {l : List TxA} {S : SA} (t : Truth sh l S) {n k : Nat} (hn : n < l.length) (hk : k < sh) (hp : fE sh (gX l n) k = true) (hr : bW S.rd n k = false) : aU sh l S n k = false := by
 cases e : aU sh l S n k with
 | false => rfl
 | true => rw [mI t hn hk hp e] at hr; cases hr
theorem lD {sh : Nat} {l : List TxA} {S : SA} {n k m j : Nat} (h : Form sh l S) (hn : n < l.length) (hk : k < sh) (hg : aU sh l S m j = true) : aU sh l (fG sh l S n k) m j = true := by
 unfold aU at hg ⊢
 cases hp : fE sh (gX l m) j
 ·rfl
 ·rw [hp, if_pos rfl] at hg
  rw [if_pos rfl]
  cases ha : iW sh (gX l m) j
  ·rw [ha] at hg; exact rd_up h hn hk hg
  ·rw [ha] at hg; exact hg
theorem jX {sh : Nat} {l : List TxA} {S : SA} {n k m j : Nat} (h : Form sh l S) (hn : n < l.length) (hk : k < sh) (hg : aU sh l S m j = true) : aU sh l (dI sh l S n k) m j = true := by
 unfold aU at hg ⊢
 cases hp : fE sh (gX l m) j
 ·rfl
 ·rw [hp, if_pos rfl] at hg
  rw [if_pos rfl]
  cases ha : iW sh (gX l m) j
  ·rw [ha] at hg; exact hg
  ·rw [ha] at hg; exact wr_up h hn hk hg
theorem rs_has {x : TxA} {i : Nat} (g : Good x) (hi : i < x.rs.length) : iT x (x.rs.getD i 0).toNat = true ∧ (x.rs.getD i 0).toNat < 8 := by
 have hm : x.rs.getD i 0 ∈ x.rs := by simp [List.getD, hi]
 have := g.r _ hm
 refine ⟨?_, by omega⟩
 unfold iT rdX
 rw [show (((x.rs.getD i 0).toNat : Nat) : Int) = x.rs.getD i 0 by omega, decide_eq_true hm]
 rfl
theorem inv_read {sh : Nat} {l : List TxA} {s0 : List Int} {S : SA} (hsh : 0 < sh) (hg : ∀ n, n < l.length → Good (gX l n)) (I : Inv sh l s0 S) {n k : Nat} (hn : n < l.length) (hk : k < sh) (hm : dP sh l S 1 n k = true) : Inv sh l s0 (fG sh l S n k) := by
 obtain ⟨hp, hr, hb⟩ := lC hm
 refine ⟨form_read I.f hn, truth_read I.f I.t hn hk hp, fun a j ha hj hrd m hma hc => ?_, fun a j ha hj hrd i hi he => ?_, I.store⟩
 ·rw [gY I.f hn hk] at hrd
  refine lD I.f hn hk ?_
  by_cases e : n = a ∧ k = j
  ·obtain ⟨rfl, rfl⟩ := e
   exact eH.1 hb m hma hc
  ·rw [if_neg e] at hrd; exact I.ahead a j ha hj hrd m hma hc
 ·show ((S.vs.set n _).getD a []).getD i 0 = _
  rw [dA _ _ _ _ _ (by rw [I.f.vs]; exact hn)]
  by_cases e : n = a
  ·subst e
   rw [if_pos rfl, mixV_get sh k S.st _ _ i hi (by rw [I.f.vn n hn]; exact hi)]
   by_cases ek : ((gX l n).rs.getD i 0).toNat % sh = k
   ·rw [if_pos ek]
    obtain ⟨hh, h8⟩ := rs_has (hg n hn) hi
    show S.st.getD ((gX l n).rs.getD i 0).toNat 0 = (fF s0 l n).getD ((gX l n).rs.getD i 0).toNat 0
    refine I.store _ n h8 (by omega) fun m hm' hw => ?_
    have hng : aU sh l S n (((gX l n).rs.getD i 0).toNat % sh) = false := by rw [ek]; exact nH I.t hn hk hp hr
    constructor
    ·intro hwr
     apply Classical.byContradiction
     intro hle
     by_cases em : m = n
     ·subst em
      have := wr_rd I.t hm' (by rw [ek]; exact hk) hwr
      rw [ek, hr] at this; cases this
     ·rw [mU hsh I h8 (by omega) hm' hh hw hng] at hwr; cases hwr
    ·intro hlt
     refine gone_wr hsh h8 hw ?_
     rw [ek]
     refine eH.1 hb m hlt ?_
     rw [← ek]
     exact clK_of h8 (clash_wr hw hh)
   ·rw [if_neg ek]
    rw [gY I.f hn hk, if_neg (fun h => ek (by rw [he]; exact h.2.symm))] at hrd
    exact I.vals n j ha hj hrd i hi he
  ·rw [if_neg e]
   rw [gY I.f hn hk, if_neg (fun h => e h.1)] at hrd
   exact I.vals a j ha hj hrd i hi he
theorem get_some (l : List Int) (i : Nat) (h : i < l.length) : l[i]? = some (l.getD i 0) := by simp [List.getD, h]
theorem vals_all {sh : Nat} {l : List TxA} {s0 : List Int} {S : SA} (hsh : 0 < sh) (hg : ∀ n, n < l.length → Good (gX l n)) (I : Inv sh l s0 S) {n : Nat} (hn : n < l.length) (hr : dE sh l S n = true) : S.vs.getD n [] = qV (fF s0 l n) (gX l n).rs := by
 have hlen := I.f.vn n hn
 apply List.ext_getElem?
 intro i
 by_cases hi : i < (gX l n).rs.length
 ·obtain ⟨hh, h8⟩ := rs_has (hg n hn) hi
  have hk : ((gX l n).rs.getD i 0).toNat % sh < sh := Nat.mod_lt _ hsh
  have h1 := I.vals n _ hn hk (eN.1 hr _ hk ((ptB_iff hk).2 ⟨_, h8, hh, rfl⟩)) i hi rfl
  have hi2 : i < (S.vs.getD n []).length := by omega
  have e1 : (S.vs.getD n [])[i]? = some ((S.vs.getD n []).getD i 0) := get_some _ _ hi2
  rw [e1, h1]
  simp [qV, hi]
 ·rw [List.getElem?_eq_none (by omega), List.getElem?_eq_none (by simp [qV]; omega)]
theorem inv_write {sh : Nat} {l : List TxA} {s0 : List Int} {S : SA} (hsh : 0 < sh) (h0 : s0.length = 8) (hg : ∀ n, n < l.length → Good (gX l n)) (I : Inv sh l s0 S) {n k : Nat} (hn : n < l.length) (hk : k < sh) (hm : dP sh l S 2 n k = true) : Inv sh l s0 (dI sh l S n k) := by
 obtain ⟨ha, hw, hr⟩ := jO hm
 refine ⟨form_write I.f, truth_write I.f I.t hn hk ha hr, fun a j ha' hj hrd m hma hc => jX I.f hn hk (I.ahead a j ha' hj hrd m hma hc), I.vals, fun c j h8 hj hcond => ?_⟩
 have hng : aU sh l S n k = false := by
  unfold aU
  rw [if_pos (nQ hk ha), ha, if_pos rfl, hw]
 show (bP sh k S.st (aI (gX l n).ss) (aY (S.vs.getD n []) (gX l n).gs (gX l n).ss)).getD c 0 = _
 by_cases hit : iZ (gX l n) c = true ∧ c % sh = k
 ·obtain ⟨hwc, hck⟩ := hit
  have hlt : n < j := (hcond n hn hwc).1 (by rw [hck, eO I.f hn hk, if_pos ⟨rfl, rfl⟩])
  have hbehind : ∀ m, n < m → m < l.length → iZ (gX l m) c = true → bW S.wr m (c % sh) = false := fun m hnm hml hwm =>
   mU hsh I h8 hnm hml (by simp [iT, hwc]) hwm (by rw [hck]; exact hng)
  have hold : S.st.getD c 0 = (fF s0 l n).getD c 0 := by
   refine I.store c n h8 (by omega) fun m hml hwm => ?_
   constructor
   ·intro hwr
    apply Classical.byContradiction
    intro hle
    by_cases em : m = n
    ·subst em; rw [hck, hw] at hwr; cases hwr
    ·rw [hbehind m (by omega) hml hwm] at hwr; cases hwr
   ·intro hlt'
    have := (hcond m hml hwm).2 (by omega)
    rw [eO I.f hn hk, if_neg (fun h => by omega)] at this
    exact this
  have hskip : (fF s0 l j).getD c 0 = (fF s0 l (n + 1)).getD c 0 := by
   refine oB hg s0 c (n + 1) j (by omega) hj fun m h1 h2 => ?_
   cases e : iZ (gX l m) c with
   | false => rfl
   | true =>
    have := (hcond m (by omega) e).2 h2
    rw [eO I.f hn hk, if_neg (fun h => by omega), hbehind m (by omega) (by omega) e] at this
    cases this
  rw [hskip, oA s0 l n hn, vals_all hsh hg I hn hr]
  exact oC sh k c hck _ _ _ _ (by rw [I.f.st]; unfold fF; rw [kE, h0]) hold
 ·have hfar : (bP sh k S.st (aI (gX l n).ss) (aY (S.vs.getD n []) (gX l n).gs (gX l n).ss)).getD c 0 = S.st.getD c 0 :=
   pS sh k c _ _ _ fun key hkey e1 e2 => hit ⟨(qM (hg n hn)).2 ⟨key, hkey, e2⟩, by rw [← e2]; exact e1⟩
  rw [hfar]
  refine I.store c j h8 hj fun m hml hwm => ?_
  rw [← hcond m hml hwm, eO I.f hn hk]
  by_cases e : n = m ∧ k = c % sh
  ·exact absurd ⟨by rw [e.1]; exact hwm, e.2.symm⟩ hit
  ·rw [if_neg e]
theorem inv_do {sh : Nat} {l : List TxA} {s0 : List Int} {S : SA} (hsh : 0 < sh) (h0 : s0.length = 8) (hg : ∀ n, n < l.length → Good (gX l n)) (I : Inv sh l s0 S) {kind n k : Nat} (hkd : kind = 1 ∨ kind = 2) (hn : n < l.length) (hk : k < sh) (hm : dP sh l S kind n k = true) : Inv sh l s0 (doX sh l S kind n k) := by
 rcases hkd with rfl | rfl
 ·exact inv_read hsh hg I hn hk hm
 ·exact inv_write hsh h0 hg I hn hk hm
theorem inv_over {sh : Nat} {l : List TxA} {s0 : List Int} {S : SA} (hsh : 0 < sh) (h0 : s0.length = 8) (hg : ∀ n, n < l.length → Good (gX l n)) (I : Inv sh l s0 S) (h : cD sh l S = true) : S.st = cV s0 l ∧ ∀ n, n < l.length → S.vs.getD n [] = qV (fF s0 l n) (gX l n).rs := by
 constructor
 ·have h8 := I.f.st
  have h8' : (cV s0 l).length = 8 := by rw [kE, h0]
  apply List.ext_getElem?
  intro c
  by_cases hc : c < 8
  ·have := I.store c l.length hc (Nat.le_refl _) fun n hn hw => ⟨fun _ => hn, fun _ => gone_wr hsh hc hw (iF.1 h n _ hn (Nat.mod_lt _ hsh))⟩
   have e : fF s0 l l.length = cV s0 l := by unfold fF; rw [List.take_length]
   rw [e] at this
   simpa [List.getD, h8, h8', hc] using this
  ·rw [List.getElem?_eq_none (by omega), List.getElem?_eq_none (by omega)]
 ·intro n hn
  exact vals_all hsh hg I hn (eN.2 fun k hk hp => mI I.t hn hk hp (iF.1 h n k hn hk))
def gJ (sh : Nat) (l : List TxA) (s : List Int) : SA := ⟨s, l.map fun _ => List.replicate sh false, l.map fun _ => List.replicate sh false, l.map fun x => List.replicate x.rs.length 0⟩
theorem iB (sh : Nat) (l : List TxA) (n k : Nat) : bW (l.map fun _ => List.replicate sh false) n k = false := by
 unfold bW
 simp only [List.getD, List.getElem?_map]
 cases l[n]? with
 | none => rfl
 | some x => simp [List.getElem?_replicate]; split <;> rfl
theorem rA (sh : Nat) (l : List TxA) (s : List Int) (h8 : s.length = 8) (hg : ∀ n, n < l.length → Good (gX l n)) : Inv sh l s (gJ sh l s) := by
 have hr : ∀ n k, bW (gJ sh l s).rd n k = false := iB sh l
 have hw : ∀ n k, bW (gJ sh l s).wr n k = false := iB sh l
 refine ⟨⟨h8, by simp [gJ], by simp [gJ], by simp [gJ], fun n hn => ?_, fun n hn => ?_, fun n hn => ?_⟩, ⟨fun n k _ _ h => ?_, fun n k _ _ h => ?_⟩, fun n k _ _ h => ?_, fun n k _ _ h => ?_, fun c j _ hj h => ?_⟩
 ·simp [gJ, List.getD, hn]
 ·simp [gJ, List.getD, hn]
 ·simp [gJ, gX, List.getD, hn]
 ·rw [hr] at h; cases h
 ·rw [hw] at h; cases h
 ·rw [hr] at h; cases h
 ·rw [hr] at h; cases h
 ·show s.getD c 0 = _
  unfold fF
  have : ∀ j, j ≤ l.length → (∀ n, n < l.length → iZ (gX l n) c = true → ¬ n < j) → (cV s (l.take j)).getD c 0 = s.getD c 0 := by
   intro j
   induction j with
   | zero => intro _ _; rfl
   | succ j ih =>
    intro hj hh
    rw [mP s l j (by omega)]
    have hno : iZ (gX l j) c = false := by
     cases e : iZ (gX l j) c with
     | false => rfl
     | true => exact absurd (Nat.lt_succ_self j) (hh j (by omega) e)
    unfold aEnd
    rw [kI _ _ _ _ (fun key hk ek => ?_)]
    ·exact ih (by omega) fun n hn hwn hlt => hh n hn hwn (by omega)
    ·rw [(qM (hg j (by omega))).2 ⟨key, hk, ek⟩] at hno; cases hno
  rw [this j hj fun n hn hwn hlt => by
   have := (h n hn hwn).2 hlt
   rw [hw] at this; cases this]
theorem still {sh : Nat} {l : List TxA} {S : SA} (f : Form sh l S) {kx n k ky m j : Nat} (hkx : kx = 1 ∨ kx = 2) (hky : ky = 1 ∨ ky = 2) (hn : n < l.length) (hk : k < sh) (hy : dP sh l S ky m j = true) (hne : ¬ (kx = ky ∧ n = m ∧ k = j)) : dP sh l (doX sh l S kx n k) ky m j = true := by
 rcases hkx with rfl | rfl <;> rcases hky with rfl | rfl
 ·obtain ⟨h1, h2, h3⟩ := lC hy
  refine jP h1 ?_ ?_
  ·show bW (fG sh l S n k).rd m j = false
   rw [gY f hn hk, if_neg (fun e => hne ⟨rfl, e.1, e.2⟩)]; exact h2
  ·have : iN sh l (fG sh l S n k) m j = false := eH.2 fun a ha hc => lD f hn hk (eH.1 h3 a ha hc)
   show fB sh l (fG sh l S n k) 1 m j = true
   simp [fB, this]
 ·obtain ⟨h1, h2, h3⟩ := jO hy
  exact jP (kind := 2) h1 h2 (oZ f hn hk h3)
 ·obtain ⟨h1, h2, h3⟩ := lC hy
  refine jP h1 h2 ?_
  have : iN sh l (dI sh l S n k) m j = false := eH.2 fun a ha hc => jX f hn hk (eH.1 h3 a ha hc)
  show fB sh l (dI sh l S n k) 1 m j = true
  simp [fB, this]
 ·obtain ⟨h1, h2, h3⟩ := jO hy
  refine jP (kind := 2) h1 ?_ h3
  show bW (dI sh l S n k).wr m j = false
  rw [eO f hn hk, if_neg (fun e => hne ⟨rfl, e.1, e.2⟩)]; exact h2
def fK (picks : List Int) (i c : Nat) : Nat := if i < picks.length then (if picks.getD i 0 < 0 then (-(picks.getD i 0 + 1)).toNat % c else (picks.getD i 0).toNat % c) else 0
def step1 (sh : Nat) (l : List TxA) (S : SA) (x : Nat × Nat × Nat) : SA := doX sh l S x.1 x.2.1 x.2.2
def nextX (sh : Nat) (l : List TxA) (picks : List Int) (S : SA) (i : Nat) : SA := step1 sh l S ((bD sh l S).getD (fK picks i (bD sh l S).length) (0, 0, 0))
def aS (sh : Nat) (l : List TxA) (picks : List Int) (s : List Int) : Nat → SA
 | 0 => gJ sh l s
 | i + 1 => nextX sh l picks (aS sh l picks s i) i
theorem pT (picks : List Int) (i c : Nat) (h : 0 < c) : fK picks i c < c := by
 unfold fK
 split
 ·split <;> exact Nat.mod_lt _ h
 ·exact h
theorem pick_mem {sh : Nat} {l : List TxA} {S : SA} (picks : List Int) (i : Nat) (h : bD sh l S ≠ []) : (bD sh l S).getD (fK picks i (bD sh l S).length) (0, 0, 0) ∈ bD sh l S := by
 have hp := pT picks i (bD sh l S).length (by cases e : bD sh l S with | nil => exact absurd e h | cons a t => simp)
 simp [List.getD, hp]
theorem kY {sh : Nat} {l : List TxA} {s : List Int} (picks : List Int) (hsh : 0 < sh) (h8 : s.length = 8) (hg : ∀ n, n < l.length → Good (gX l n)) : ∀ i, (∀ j, j < i → cD sh l (aS sh l picks s j) = false) → Inv sh l s (aS sh l picks s i) ∧ cnt sh l (aS sh l picks s i) = i
 | 0, _ => by
  refine ⟨rA sh l s h8 hg, ?_⟩
  show cnt sh l (gJ sh l s) = 0
  have key : ∀ N, c2 (fun _ _ => false) sh N = 0 := by
   intro N
   have k1 : ∀ J, c1 (fun _ => false) J = 0 := by
    intro J
    induction J with
    | zero => rfl
    | succ J ih => rw [c1, ih]; rfl
   induction N with
   | zero => rfl
   | succ N ih => rw [c2, ih, k1]
  unfold cnt
  rw [iL (bW (gJ sh l s).rd) (fun _ _ => false) sh l.length (fun n j _ _ => iB sh l n j), iL (bW (gJ sh l s).wr) (fun _ _ => false) sh l.length (fun n j _ _ => iB sh l n j), key]
 | i + 1, h => by
  obtain ⟨I, c⟩ := kY picks hsh h8 hg i (fun j hj => h j (by omega))
  have hm := pick_mem picks i (some_can (h i (by omega)))
  obtain ⟨h1, h2, h3, h4⟩ := fD.1 hm
  refine ⟨inv_do hsh h8 hg I h1 h2 h3 h4, ?_⟩
  show cnt sh l (nextX sh l picks (aS sh l picks s i) i) = i + 1
  unfold nextX step1
  rw [cnt_do h1 I.f h2 h3 h4, c]
theorem run_over {sh : Nat} {l : List TxA} {s : List Int} (picks : List Int) (hsh : 0 < sh) (h8 : s.length = 8) (hg : ∀ n, n < l.length → Good (gX l n)) : (∀ j, j < aN sh l → cD sh l (aS sh l picks s j) = false) ∧ cD sh l (aS sh l picks s (aN sh l)) = true := by
 have hex : ∃ i, cD sh l (aS sh l picks s i) = true := by
  apply Classical.byContradiction
  intro hc
  have hall : ∀ j, cD sh l (aS sh l picks s j) = false := fun j => by
   cases e : cD sh l (aS sh l picks s j) with
   | false => rfl
   | true => exact absurd ⟨j, e⟩ hc
  have h1 := (kY picks hsh h8 hg (2 * (l.length * sh) + 1) (fun j _ => hall j)).2
  have h2 := cnt_le sh l (aS sh l picks s (2 * (l.length * sh) + 1))
  omega
 obtain ⟨i0, hi0⟩ := hex
 obtain ⟨i, hi, hmin⟩ := least (P := fun i => cD sh l (aS sh l picks s i) = true) i0 hi0
 have hno : ∀ j, j < i → cD sh l (aS sh l picks s j) = false := fun j hj => by
  cases e : cD sh l (aS sh l picks s j) with
  | false => rfl
  | true => exact absurd e (hmin j hj)
 obtain ⟨I, c⟩ := kY picks hsh h8 hg i hno
 have hi' : cD sh l (aS sh l picks s i) = true := hi
 have e : i = aN sh l := by rw [← c]; exact cnt_over I.t hi'
 subst e
 exact ⟨hno, hi'⟩
theorem cntAll_le (sh : Nat) (l : List TxA) : aN sh l ≤ 2 * (l.length * sh) := by
 have h1 := c2_le (fun n k => fE sh (gX l n) k) sh l.length
 have h2 := c2_le (fun n k => iW sh (gX l n) k) sh l.length
 unfold aN; omega
def iJ (sh : Nat) (l : List TxA) (picks : List Int) (s : List Int) : SA := aS sh l picks s (aN sh l)
theorem res_ser (s : List Int) (l : List TxA) : ∀ m, m ≤ l.length → (List.range m).map (fun n => (cC (qV (fF s l n) (gX l n).rs) (gX l n).gs, qV (fF s l n) (gX l n).rs)) = eV s (l.take m)
 | 0, _ => by simp [eV]
 | m + 1, h => by
  rw [List.range_succ, List.map_append, res_ser s l m (by omega), serRes_step s l m (by omega)]
  rfl
theorem end_same {sh : Nat} {l : List TxA} {s : List Int} (picks : List Int) (hsh : 0 < sh) (h8 : s.length = 8) (hg : ∀ n, n < l.length → Good (gX l n)) :
  (iJ sh l picks s).st = cV s l ∧ (List.range l.length).map (fun n => (cC ((iJ sh l picks s).vs.getD n []) (gX l n).gs, (iJ sh l picks s).vs.getD n [])) = eV s l ∧ Inv sh l s (iJ sh l picks s) ∧ cD sh l (iJ sh l picks s) = true := by
 obtain ⟨h1, h2⟩ := run_over picks hsh h8 hg
 obtain ⟨I, _⟩ := kY picks hsh h8 hg _ h1
 obtain ⟨e1, e2⟩ := inv_over hsh h8 hg I h2
 refine ⟨e1, ?_, I, h2⟩
 have := res_ser s l l.length (Nat.le_refl _)
 rw [List.take_length] at this
 rw [← this]
 apply List.map_congr_left
 intro n hn
 have hn' := List.mem_range.1 hn
 show (cC ((aS sh l picks s (aN sh l)).vs.getD n []) (gX l n).gs, (aS sh l picks s (aN sh l)).vs.getD n []) = _
 rw [e2 n hn']
end Go.Proofs.YtebjkmknhpgemaaGreat
namespace Go.Proofs.YtebjkmknhpgemaaGreat
open Go.RowKit
variable (x y : TxA)
def pI (sh : Nat) (x y : TxA) (kk n : Nat) : Bool := (List.range n).any fun c => c % sh == kk && dS x y c
theorem clTo_step (sh : Nat) (x y : TxA) (kk n : Nat) : pI sh x y kk (n + 1) = (pI sh x y kk n || (n % sh == kk && dS x y n)) := by
 unfold pI
 rw [List.range_succ, List.any_append]
 simp
theorem rd_is (x : TxA) (k : Nat) (b : Bool) (h : rdX x k = b) : decide ((k : Int) ∈ x.rs) = b := h
theorem wr_is (x : TxA) (k : Nat) (b : Bool) (h : iZ x k = b) : decide ((k : Int) ∈ aI x.ss) = b := h
set_option maxHeartbeats 4000000 in
theorem docClash_sh (sh kk : Nat) (h0 : 0 < sh) (hs4 : sh ≤ 4) (w : World) (hx : IsX w x) (hy : IsX w y) :
  Calls Tryz.prog 107 #[.agg #[.slice x.ra x.rs.length x.rc, .slice x.ga x.gs.length x.gc, .slice x.sa x.ss.length x.sc], .agg #[.slice y.ra y.rs.length y.rc, .slice y.ga y.gs.length y.gc, .slice y.sa y.ss.length y.sc], .int .i64 sh, .int .i64 kk] w fun e w' => e = .returned (.bool (lU sh x y kk)) ∧ Below w.heap.size w w' := by
 have HS : Hid (∀ k, pI sh x y kk (k + 1) = (pI sh x y kk k || (k % sh == kk && dS x y k))) := clTo_step sh x y kk
 have HA : Hid (∀ k, dS x y k = ((iZ x k && (rdX y k || iZ y k)) || (iZ y k && rdX x k))) := fun k => rfl
 have HF : Hid (lU sh x y kk = pI sh x y kk 8) := rfl
 have HD : Hid (∀ k, pI sh x y kk k = true → k ≤ 8 → lU sh x y kk = true) := fun k h hk => by
  unfold lU pI at *
  rw [List.any_eq_true] at *
  obtain ⟨j, hj, hc⟩ := h
  exact ⟨j, List.mem_range.2 (by have := List.mem_range.1 hj; omega), hc⟩
 have R1 : Hid (∀ k b, rdX x k = b → decide ((k : Int) ∈ x.rs) = b) := rd_is x
 have W1 : Hid (∀ k b, iZ x k = b → decide ((k : Int) ∈ aI x.ss) = b) := wr_is x
 have R2 : Hid (∀ k b, rdX y k = b → decide ((k : Int) ∈ y.rs) = b) := rd_is y
 have W2 : Hid (∀ k b, iZ y k = b → decide ((k : Int) ∈ aI y.ss) = b) := wr_is y
 have H0 : Hid (pI sh x y kk 0 = false) := rfl
 generalize lU sh x y kk = CX at *
 generalize hct : pI sh x y kk = ct at *
 generalize hca : dS x y = ca at *
 clear hct hca
 generalize rdX x = rx at *
 generalize iZ x = wx at *
 generalize rdX y = ry at *
 generalize iZ y = wy at *
 obtain ⟨ra, ga, sa, rc, gc, sc, rs, gs, ss⟩ := x
 obtain ⟨ra', ga', sa', rc', gc', sc', rs', gs', ss'⟩ := y
 simp only at R1 W1 R2 W2
 have HX : Hid (IsTx w ra ga sa rs gs ss) := hx.t
 have HY : Hid (IsTx w ra' ga' sa' rs' gs' ss') := hy.t
 clear hx hy
 have g1 : Below w.heap.size w ((w.alloc (.cells #[.slice ra rs.length rc, .slice ga gs.length gc, .slice sa ss.length sc] 79)).alloc (.cells #[.slice ra' rs'.length rc', .slice ga' gs'.length gc', .slice sa' ss'.length sc'] 79)) := aB (aB (Below.refl _ _) _) _
 have p0 : ((w.alloc (.cells #[.slice ra rs.length rc, .slice ga gs.length gc, .slice sa ss.length sc] 79)).alloc (.cells #[.slice ra' rs'.length rc', .slice ga' gs'.length gc', .slice sa' ss'.length sc'] 79)).cell? ⟨w.heap.size, 0, none⟩ = some (.slice ra rs.length rc) := by rw [World.cell?_alloc_lt _ _ _ (by simp)]; simp
 have p1 : ((w.alloc (.cells #[.slice ra rs.length rc, .slice ga gs.length gc, .slice sa ss.length sc] 79)).alloc (.cells #[.slice ra' rs'.length rc', .slice ga' gs'.length gc', .slice sa' ss'.length sc'] 79)).cell? ⟨w.heap.size, 1, none⟩ = some (.slice ga gs.length gc) := by rw [World.cell?_alloc_lt _ _ _ (by simp)]; simp
 have p2 : ((w.alloc (.cells #[.slice ra rs.length rc, .slice ga gs.length gc, .slice sa ss.length sc] 79)).alloc (.cells #[.slice ra' rs'.length rc', .slice ga' gs'.length gc', .slice sa' ss'.length sc'] 79)).cell? ⟨w.heap.size, 2, none⟩ = some (.slice sa ss.length sc) := by rw [World.cell?_alloc_lt _ _ _ (by simp)]; simp
 have q0 : ((w.alloc (.cells #[.slice ra rs.length rc, .slice ga gs.length gc, .slice sa ss.length sc] 79)).alloc (.cells #[.slice ra' rs'.length rc', .slice ga' gs'.length gc', .slice sa' ss'.length sc'] 79)).cell? ⟨w.heap.size + 1, 0, none⟩ = some (.slice ra' rs'.length rc') := by simp
 have q1 : ((w.alloc (.cells #[.slice ra rs.length rc, .slice ga gs.length gc, .slice sa ss.length sc] 79)).alloc (.cells #[.slice ra' rs'.length rc', .slice ga' gs'.length gc', .slice sa' ss'.length sc'] 79)).cell? ⟨w.heap.size + 1, 1, none⟩ = some (.slice ga' gs'.length gc') := by simp
 have q2 : ((w.alloc (.cells #[.slice ra rs.length rc, .slice ga gs.length gc, .slice sa ss.length sc] 79)).alloc (.cells #[.slice ra' rs'.length rc', .slice ga' gs'.length gc', .slice sa' ss'.length sc'] 79)).cell? ⟨w.heap.size + 1, 2, none⟩ = some (.slice sa' ss'.length sc') := by simp
 go_enter Tryz.func107, Tryz.ntmps107
 go_wp2
 have G1 : Hid (Below w.heap.size w ((w.alloc (.cells #[.slice ra rs.length rc, .slice ga gs.length gc, .slice sa ss.length sc] 79)).alloc (.cells #[.slice ra' rs'.length rc', .slice ga' gs'.length gc', .slice sa' ss'.length sc'] 79))) := g1
 clear g1
 generalize (w.alloc (.cells #[.slice ra rs.length rc, .slice ga gs.length gc, .slice sa ss.length sc] 79)).alloc (.cells #[.slice ra' rs'.length rc', .slice ga' gs'.length gc', .slice sa' ss'.length sc'] 79) = V at *
 go_loopw [9] (fun i wr => ∃ k : Nat, k ≤ 8 ∧ i = .int .i64 k ∧ Hid (ct k = false) ∧ Hid (Below V.heap.size V wr)) (fun i _ => 8 - (intOf i).toNat)
 case atStart => exact ⟨0, Nat.zero_le _, rfl, H0, Below.refl _ _⟩
 case round =>
  obtain ⟨k, hk, rfl, hC, hB⟩ := hrel
  by_cases hlt : k < 8
  ·have p0 := aA hB.out p0
   have p1 := aA hB.out p1
   have p2 := aA hB.out p2
   have q0 := aA hB.out q0
   have q1 := aA hB.out q1
   have q2 := aA hB.out q2
   by_cases hat : k % sh = kk
   rotate_left
   ·have HR : Hid (ct (k + 1) = false) := by
     show _ = _
     rw [HS.out, hC.out]
     have e : (k % sh == kk) = false := by simpa using hat
     rw [e]
     rfl
    have hm : ((k : Int) % (sh : Int) != (kk : Int)) = true := by
     rw [bne_iff_ne]
     intro e
     exact hat (by omega)
    clear p0 p1 p2 q0 q1 q2 HS HA HF hC HD R1 R2 W1 W2 hat
    go_wp2
    go_roundw
    case rel => exact ⟨k + 1, by omega, by go_num, HR, hB⟩
    case measure => simp [intOf]; omega
   have HT : Hid (ct (k + 1) = ca k) := by
    show _ = _
    rw [HS.out, hC.out]
    have e : (k % sh == kk) = true := by simpa using hat
    rw [e]
    rfl
   have HAk := HA.out k
   have hm : ((k : Int) % (sh : Int) != (kk : Int)) = false := by
    rw [bne_eq_false_iff_eq]
    omega
   clear hat
   have BW : Hid (Below w.heap.size w wr) := aC G1.out hB.out
   have HXr : Hid (IsTx wr ra ga sa rs gs ss) := HX.out.below BW.out
   have HYr : Hid (IsTx wr ra' ga' sa' rs' gs' ss') := HY.out.below BW.out
   clear HS HA HF hC BW
   cases hwx : wx k with
   | true =>
    go_wp2_with fail
    refine (cL ra ga sa rc gc sc rs gs ss k _ HXr.out).mono ?_
    rintro e V1 ⟨rfl, hw1⟩
    rw [W1.out k _ hwx]
    have b1 : Below wr.heap.size wr V1 := by rw [hw1]; exact aB (Below.refl _ _) _
    clear hw1
    have p0 := aA b1 p0
    have p1 := aA b1 p1
    have p2 := aA b1 p2
    have q0 := aA b1 q0
    have q1 := aA b1 q1
    have q2 := aA b1 q2
    have HXr : Hid (IsTx V1 ra ga sa rs gs ss) := HXr.out.below b1
    have HYr : Hid (IsTx V1 ra' ga' sa' rs' gs' ss') := HYr.out.below b1
    have hB : Hid (Below V.heap.size V V1) := aC hB.out b1
    clear b1
    cases hry : ry k with
    | true =>
     go_wp2_with fail
     refine (fJ ra' ga' sa' rc' gc' sc' rs' gs' ss' k _ HYr.out).mono ?_
     rintro e V2 ⟨rfl, hw2⟩
     rw [R2.out k _ hry]
     have b2 : Below V1.heap.size V1 V2 := by rw [hw2]; exact aB (Below.refl _ _) _
     clear hw2
     have p0 := aA b2 p0
     have p1 := aA b2 p1
     have p2 := aA b2 p2
     have q0 := aA b2 q0
     have q1 := aA b2 q1
     have q2 := aA b2 q2
     have HXr : Hid (IsTx V2 ra ga sa rs gs ss) := HXr.out.below b2
     have HYr : Hid (IsTx V2 ra' ga' sa' rs' gs' ss') := HYr.out.below b2
     have hB : Hid (Below V.heap.size V V2) := aC hB.out b2
     clear b2
     have HR : Hid (CX = true) := HD.out (k + 1) (by rw [HT.out, HAk]; simp [hwx, hry]) (by omega)
     have RB : Hid (Below w.heap.size w V2) := aC G1.out hB.out
     clear p0 p1 p2 q0 q1 q2 HAk HT HXr HYr
     go_wp2
     go_ret
     exact ⟨by rw [HR.out]; rfl, RB.out⟩
    | false =>
     go_wp2_with fail
     refine (fJ ra' ga' sa' rc' gc' sc' rs' gs' ss' k _ HYr.out).mono ?_
     rintro e V3 ⟨rfl, hw3⟩
     rw [R2.out k _ hry]
     have b3 : Below V1.heap.size V1 V3 := by rw [hw3]; exact aB (Below.refl _ _) _
     clear hw3
     have p0 := aA b3 p0
     have p1 := aA b3 p1
     have p2 := aA b3 p2
     have q0 := aA b3 q0
     have q1 := aA b3 q1
     have q2 := aA b3 q2
     have HXr : Hid (IsTx V3 ra ga sa rs gs ss) := HXr.out.below b3
     have HYr : Hid (IsTx V3 ra' ga' sa' rs' gs' ss') := HYr.out.below b3
     have hB : Hid (Below V.heap.size V V3) := aC hB.out b3
     clear b3
     cases hwy : wy k with
     | true =>
      go_wp2_with fail
      refine (cL ra' ga' sa' rc' gc' sc' rs' gs' ss' k _ HYr.out).mono ?_
      rintro e V4 ⟨rfl, hw4⟩
      rw [W2.out k _ hwy]
      have b4 : Below V3.heap.size V3 V4 := by rw [hw4]; exact aB (Below.refl _ _) _
      clear hw4
      have p0 := aA b4 p0
      have p1 := aA b4 p1
      have p2 := aA b4 p2
      have q0 := aA b4 q0
      have q1 := aA b4 q1
      have q2 := aA b4 q2
      have HXr : Hid (IsTx V4 ra ga sa rs gs ss) := HXr.out.below b4
      have HYr : Hid (IsTx V4 ra' ga' sa' rs' gs' ss') := HYr.out.below b4
      have hB : Hid (Below V.heap.size V V4) := aC hB.out b4
      clear b4
      have HR : Hid (CX = true) := HD.out (k + 1) (by rw [HT.out, HAk]; simp [hwx, hry, hwy]) (by omega)
      have RB : Hid (Below w.heap.size w V4) := aC G1.out hB.out
      clear p0 p1 p2 q0 q1 q2 HAk HT HXr HYr
      go_wp2
      go_ret
      exact ⟨by rw [HR.out]; rfl, RB.out⟩
     | false =>
      go_wp2_with fail
      refine (cL ra' ga' sa' rc' gc' sc' rs' gs' ss' k _ HYr.out).mono ?_
      rintro e V5 ⟨rfl, hw5⟩
      rw [W2.out k _ hwy]
      have b5 : Below V3.heap.size V3 V5 := by rw [hw5]; exact aB (Below.refl _ _) _
      clear hw5
      have p0 := aA b5 p0
      have p1 := aA b5 p1
      have p2 := aA b5 p2
      have q0 := aA b5 q0
      have q1 := aA b5 q1
      have q2 := aA b5 q2
      have HXr : Hid (IsTx V5 ra ga sa rs gs ss) := HXr.out.below b5
      have HYr : Hid (IsTx V5 ra' ga' sa' rs' gs' ss') := HYr.out.below b5
      have hB : Hid (Below V.heap.size V V5) := aC hB.out b5
      clear b5
      go_wp2_with fail
      refine (cL ra' ga' sa' rc' gc' sc' rs' gs' ss' k _ HYr.out).mono ?_
      rintro e V6 ⟨rfl, hw6⟩
      rw [W2.out k _ hwy]
      have b6 : Below V5.heap.size V5 V6 := by rw [hw6]; exact aB (Below.refl _ _) _
      clear hw6
      have p0 := aA b6 p0
      have p1 := aA b6 p1
      have p2 := aA b6 p2
      have q0 := aA b6 q0
      have q1 := aA b6 q1
      have q2 := aA b6 q2
      have HXr : Hid (IsTx V6 ra ga sa rs gs ss) := HXr.out.below b6
      have HYr : Hid (IsTx V6 ra' ga' sa' rs' gs' ss') := HYr.out.below b6
      have hB : Hid (Below V.heap.size V V6) := aC hB.out b6
      clear b6
      have HR : Hid (ct (k + 1) = false) := by show _ = _; rw [HT.out, HAk]; simp [hwx, hry, hwy]
      clear p0 p1 p2 q0 q1 q2 HAk HT HXr HYr
      go_wp2
      go_roundw
      case rel => exact ⟨k + 1, by omega, by go_num, HR, hB⟩
      case measure => simp [intOf]; omega
   | false =>
    go_wp2_with fail
    refine (cL ra ga sa rc gc sc rs gs ss k _ HXr.out).mono ?_
    rintro e V7 ⟨rfl, hw7⟩
    rw [W1.out k _ hwx]
    have b7 : Below wr.heap.size wr V7 := by rw [hw7]; exact aB (Below.refl _ _) _
    clear hw7
    have p0 := aA b7 p0
    have p1 := aA b7 p1
    have p2 := aA b7 p2
    have q0 := aA b7 q0
    have q1 := aA b7 q1
    have q2 := aA b7 q2
    have HXr : Hid (IsTx V7 ra ga sa rs gs ss) := HXr.out.below b7
    have HYr : Hid (IsTx V7 ra' ga' sa' rs' gs' ss') := HYr.out.below b7
    have hB : Hid (Below V.heap.size V V7) := aC hB.out b7
    clear b7
    cases hwy : wy k with
    | true =>
     go_wp2_with fail
     refine (cL ra' ga' sa' rc' gc' sc' rs' gs' ss' k _ HYr.out).mono ?_
     rintro e V8 ⟨rfl, hw8⟩
     rw [W2.out k _ hwy]
     have b8 : Below V7.heap.size V7 V8 := by rw [hw8]; exact aB (Below.refl _ _) _
     clear hw8
     have p0 := aA b8 p0
     have p1 := aA b8 p1
     have p2 := aA b8 p2
     have q0 := aA b8 q0
     have q1 := aA b8 q1
     have q2 := aA b8 q2
     have HXr : Hid (IsTx V8 ra ga sa rs gs ss) := HXr.out.below b8
     have HYr : Hid (IsTx V8 ra' ga' sa' rs' gs' ss') := HYr.out.below b8
     have hB : Hid (Below V.heap.size V V8) := aC hB.out b8
     clear b8
     cases hrx : rx k with
     | true =>
      go_wp2_with fail
      refine (fJ ra ga sa rc gc sc rs gs ss k _ HXr.out).mono ?_
      rintro e V9 ⟨rfl, hw9⟩
      rw [R1.out k _ hrx]
      have b9 : Below V8.heap.size V8 V9 := by rw [hw9]; exact aB (Below.refl _ _) _
      clear hw9
      have p0 := aA b9 p0
      have p1 := aA b9 p1
      have p2 := aA b9 p2
      have q0 := aA b9 q0
      have q1 := aA b9 q1
      have q2 := aA b9 q2
      have HXr : Hid (IsTx V9 ra ga sa rs gs ss) := HXr.out.below b9
      have HYr : Hid (IsTx V9 ra' ga' sa' rs' gs' ss') := HYr.out.below b9
      have hB : Hid (Below V.heap.size V V9) := aC hB.out b9
      clear b9
      have HR : Hid (CX = true) := HD.out (k + 1) (by rw [HT.out, HAk]; simp [hwx, hwy, hrx]) (by omega)
      have RB : Hid (Below w.heap.size w V9) := aC G1.out hB.out
      clear p0 p1 p2 q0 q1 q2 HAk HT HXr HYr
      go_wp2
      go_ret
      exact ⟨by rw [HR.out]; rfl, RB.out⟩
     | false =>
      go_wp2_with fail
      refine (fJ ra ga sa rc gc sc rs gs ss k _ HXr.out).mono ?_
      rintro e V10 ⟨rfl, hw10⟩
      rw [R1.out k _ hrx]
      have b10 : Below V8.heap.size V8 V10 := by rw [hw10]; exact aB (Below.refl _ _) _
      clear hw10
      have p0 := aA b10 p0
      have p1 := aA b10 p1
      have p2 := aA b10 p2
      have q0 := aA b10 q0
      have q1 := aA b10 q1
      have q2 := aA b10 q2
      have HXr : Hid (IsTx V10 ra ga sa rs gs ss) := HXr.out.below b10
      have HYr : Hid (IsTx V10 ra' ga' sa' rs' gs' ss') := HYr.out.below b10
      have hB : Hid (Below V.heap.size V V10) := aC hB.out b10
      clear b10
      have HR : Hid (ct (k + 1) = false) := by show _ = _; rw [HT.out, HAk]; simp [hwx, hwy, hrx]
      clear p0 p1 p2 q0 q1 q2 HAk HT HXr HYr
      go_wp2
      go_roundw
      case rel => exact ⟨k + 1, by omega, by go_num, HR, hB⟩
      case measure => simp [intOf]; omega
    | false =>
     go_wp2_with fail
     refine (cL ra' ga' sa' rc' gc' sc' rs' gs' ss' k _ HYr.out).mono ?_
     rintro e V11 ⟨rfl, hw11⟩
     rw [W2.out k _ hwy]
     have b11 : Below V7.heap.size V7 V11 := by rw [hw11]; exact aB (Below.refl _ _) _
     clear hw11
     have p0 := aA b11 p0
     have p1 := aA b11 p1
     have p2 := aA b11 p2
     have q0 := aA b11 q0
     have q1 := aA b11 q1
     have q2 := aA b11 q2
     have HXr : Hid (IsTx V11 ra ga sa rs gs ss) := HXr.out.below b11
     have HYr : Hid (IsTx V11 ra' ga' sa' rs' gs' ss') := HYr.out.below b11
     have hB : Hid (Below V.heap.size V V11) := aC hB.out b11
     clear b11
     have HR : Hid (ct (k + 1) = false) := by show _ = _; rw [HT.out, HAk]; simp [hwx, hwy]
     clear p0 p1 p2 q0 q1 q2 HAk HT HXr HYr
     go_wp2
     go_roundw
     case rel => exact ⟨k + 1, by omega, by go_num, HR, hB⟩
     case measure => simp [intOf]; omega
  ·have hkk : k = 8 := by omega
   have HR : Hid (CX = false) := by
    have h := hC.out
    rw [hkk] at h
    exact HF.out.trans h
   have RB : Hid (Below w.heap.size w wr) := aC G1.out hB.out
   clear p0 p1 p2 q0 q1 q2 HS HA HF hC
   go_wp2
   go_ret
   exact ⟨by rw [HR.out]; rfl, RB.out⟩
end Go.Proofs.YtebjkmknhpgemaaGreat
namespace Go.Proofs.YtebjkmknhpgemaaGreat
open Go.ChangeShapes Go.WideShapes Go.ChangeAt Go.RowKit Go.Deep
section
variable {H : Type} {enc : TypeId × Value → H} {w : World} {base : Nat} {held : Bool}
theorem open_p {b0 : Nat} {v : Value} {d : DataW H} {p : List MemPlace} (hv : Value.okWide Tryz.prog w .any b0 24 v) (h : DataW.Trod enc Tryz.prog w base (fun _ => true) held 24 v d p) :
  ∃ (m : Int) (la : Option Addr) (l : List TxA) (lc : Nat), v = .agg #[.int .i64 m, .slice la l.length lc] ∧ IsTxs w la l := by
 obtain ⟨c0, c1, y0, y1, m, rfl, _, _, h0, h1⟩ := Joins.open_agg2 Tryz.underlying24 (by kernel_rfl) (by kernel_rfl) hv h
 obtain ⟨k, rfl⟩ := mF h0
 obtain ⟨la, l, lc, rfl, _, _, hl, _⟩ := open_txs h1
 exact ⟨k, la, l, lc, rfl, hl⟩
end
end Go.Proofs.YtebjkmknhpgemaaGreat
