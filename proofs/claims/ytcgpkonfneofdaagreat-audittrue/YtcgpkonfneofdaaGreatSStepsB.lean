/-
  
  Conditions: those that each theorem states.
-/
import Derived.Test.YtcgpkonfneofdaaGreatSPlaceC
set_option maxRecDepth 100000
namespace Go.Proofs.YtcgpkonfneofdaaGreat
open Go.ChangeShapes Go.WideShapes Go.ChangeAt Go.RowKit Go.Deep
section
variable {H : Type} {enc : TypeId × Value → H} {w : World} {base : Nat} {held : Bool}
theorem tx_of {n : Nat} {c0 c1 c2 : Value} {y : DataW H × List MemPlace} (h : DataW.trod enc Tryz.prog w base (fun _ => true) held n 61 [c0, c1, c2] = some y) :
  ∃ x : TxA, c0 = .slice x.ra x.rs.length x.rc ∧ c1 = .slice x.ga x.gs.length x.gc ∧ c2 = .slice x.sa x.ss.length x.sc ∧ IsX w x := by
 obtain ⟨y0, y1, y2, m, _, _, h0, h1, h2⟩ := trod_struct3 Tryz.underlying61 h
 have k22 : Tryz.prog.cellsOf 25 = 1 := by kernel_rfl
 have k23 : Tryz.prog.cellsOf 58 = 1 := by kernel_rfl
 have k24 : Tryz.prog.cellsOf 59 = 1 := by kernel_rfl
 simp only [k22, k23, k24] at h0 h1 h2
 obtain ⟨ra, rs, rc, rfl, lr, ir, rn⟩ := open_rs (v := c0) (by simpa using h0)
 obtain ⟨ga, gs, gc, rfl, lg, ig, gn⟩ := open_gs (v := c1) (by simpa using h1)
 obtain ⟨sa, ss, sc, rfl, ls, is, sn⟩ := open_ss (v := c2) (by simpa using h2)
 exact ⟨⟨ra, ga, sa, rc, gc, sc, rs, gs, ss⟩, rfl, rfl, rfl, ⟨⟨ir, ig, is, lr, lg, ls⟩, rn, gn, sn⟩⟩
theorem open_txs {n : Nat} {v : Value} {y : DataW H × List MemPlace} (h : DataW.trod enc Tryz.prog w base (fun _ => true) held n 22 [v] = some y) : ∃ (a : Option Addr) (l : List TxA) (cap : Nat), v = .slice a l.length cap ∧ l.length ≤ maxLen ∧ l.length ≤ cap ∧ IsTxs w a l ∧ (a = none → cap = 0) := by
 have k26 : Tryz.prog.cellsOf 61 = 3 := by kernel_rfl
 rcases open_slice Tryz.underlying22 h with ⟨hcs, _⟩ | ⟨a, len, cap, m, n', D, Pl, hcs, _, hl, hm, hmm, _, hx⟩
 ·simp at hcs
  exact ⟨none, [], 0, by simpa using hcs, by simp, by simp, fun i hi => absurd hi (by simp), fun _ => rfl⟩
 ·simp at hcs
  have hlm : len ≤ m := by rw [hmm]; split <;> omega
  rw [k26] at hx
  have : Inhabited TxA := ⟨x0⟩
  obtain ⟨f, hf⟩ := choose_lt (α := TxA) (p := fun i x => w.cell? ((a.add (i * 3)).add 0) = some (.slice x.ra x.rs.length x.rc) ∧ w.cell? ((a.add (i * 3)).add 1) = some (.slice x.ga x.gs.length x.gc) ∧ w.cell? ((a.add (i * 3)).add 2) = some (.slice x.sa x.ss.length x.sc) ∧ IsX w x) (n := m) (fun i hi => by
   obtain ⟨cs', h1, h2⟩ := hx i hi
   obtain ⟨_, hlen, hc⟩ := World.cells?_some h1
   match cs', hlen with
   | [c0, c1, c2], _ =>
    obtain ⟨x, rfl, rfl, rfl, hX⟩ := tx_of h2
    exact ⟨x, hc 0 (by omega), hc 1 (by omega), hc 2 (by omega), hX⟩)
  obtain ⟨b, off, spot⟩ := a
  refine ⟨some ⟨b, off, spot⟩, (List.range len).map f, cap, by simpa using hcs, by simp; omega, by simp; omega, fun i hi => ?_, fun h => by cases h⟩
  have hi' : i < len := by simpa using hi
  have hsp : spot = none := by
   have := World.cell?_spot (hf 0 (by omega)).1
   simpa [Addr.add] using this
  subst hsp
  obtain ⟨e0, e1, e2, eX⟩ := hf i (by omega)
  rw [add_add] at e0 e1 e2
  have eg : ((List.range len).map f).getD i x0 = f i := by simp [List.getD, hi']
  rw [eg]
  exact ⟨b, off, rfl, World.block_lt_of_cell? w _ e0, e0, e1, e2, eX⟩
theorem open_zs {b0 : Nat} {v : Value} {d : DataW H} {p : List MemPlace} (hv : Value.okWide Tryz.prog w .any b0 25 v) (h : DataW.Trod enc Tryz.prog w base (fun _ => true) held 25 v d p) :
  ∃ (a : Option Addr) (zs : List Int) (cap : Nat), v = .slice a zs.length cap ∧ zs.length ≤ maxLen ∧ IsInts w a zs ∧ (a = none → cap = 0) := by
 obtain ⟨za, zl, zc, rfl⟩ := okWide_slice Tryz.underlying25 hv
 obtain ⟨fuel, hf⟩ := h
 exact open_rs (by simpa [Value.cells] using hf)
end
theorem rangeE_in : ∀ (l : List Int), rangeE l = 0 → ∀ z ∈ l, 0 ≤ z ∧ z < 8
 | [], _, z, h => by cases h
 | y :: t, h, z, hz => by
  unfold rangeE at h
  by_cases c : y < 0 ∨ 8 ≤ y
  ·rw [if_pos c] at h; omega
  ·rw [if_neg c] at h
   rcases List.mem_cons.1 hz with rfl | hz
   ·omega
   ·exact rangeE_in t h z hz
theorem rangeE_get (l : List Int) (h : rangeE l = 0) (k : Nat) (hk : k < l.length) : 0 ≤ l.getD k 0 ∧ l.getD k 0 < 8 := by
 refine rangeE_in l h _ ?_
 simp [List.getD, hk]
theorem chk_ranges {rs : List Int} {gs : List Gd} {ss : List St} (h : chkTx rs gs ss = 0) : rangeE rs = 0 ∧ rangeE (keysOf ss) = 0 := by
 have h' := firstNZ_zero _ (chk_parts h).2.1
 exact ⟨by simpa using h' 0, by simpa using h' 1⟩
theorem at_of_owns2 {w : World} {base : Nat} {v : Value} {n : Nat} {zs : List Int} (h : w.ownsRow base 3 1 v n (zs.map (Value.int .i64))) : ∃ a cap, v = .slice a zs.length cap ∧ IsAt base w.heap.size w a zs ∧ (a = none → cap = 0) := by
 have hn : zs.length = n := by have := h.1; simpa using this
 rcases h.2 with ⟨rfl, h0⟩ | ⟨g, cap, cur, rfl, hb, hg, hnc, hcm, hcs, htake⟩
 ·refine ⟨none, 0, by rw [hn, h0], fun i hi => ?_, fun _ => rfl⟩
  omega
 ·refine ⟨some ⟨g, 0, none⟩, cap, by rw [hn], fun i hi => ⟨g, 0, rfl, hb, (Array.getElem?_eq_some_iff.1 hg).1, ?_⟩, fun h => by cases h⟩
  have hc := h.cellAt i (by omega)
  rw [Nat.zero_add, hc]
  simp [List.getD, hi]
theorem take_rd (s rs : List Int) (k : Nat) (h : k < rs.length) : (rdOf s rs).take (k + 1) = (rdOf s rs).take k ++ [getAt s (rs.getD k 0)] := by
 rw [List.take_succ_eq_append_getElem (by simpa [rdOf] using h)]
 simp [rdOf, List.getD, h]
set_option maxHeartbeats 1000000 in
theorem valuesOf_own (s rs : List Int) (sa ra : Option Addr) (sc rc : Nat) (w : World) (hs : IsInts w sa s) (hr : IsInts w ra rs) (h8 : s.length = 8) (h4 : rs.length ≤ 4) (hE : rangeE rs = 0) :
  Calls Tryz.prog 109 #[.slice sa s.length sc, .slice ra rs.length rc] w fun e w' => ∃ v, e = .returned v ∧ w'.ownsRow w.heap.size 3 1 v rs.length ((rdOf s rs).map (Value.int .i64)) ∧ Below w.heap.size w w' := by
 obtain ⟨i0, hi, hz0, hz1, hz2⟩ := info_parts Tryz.info3
 have hkl : Hid ((rdOf s rs).length = rs.length) := rdOf_len s rs
 have H8 : Hid (s.length = 8) := h8
 have HE : Hid (rangeE rs = 0) := hE
 clear h8 hE
 go_enter Tryz.func109, Tryz.ntmps109
 go_wp2
 go_loopw [5, 7, 10] (fun v _ i wr => ∃ k : Nat, k ≤ rs.length ∧ i = .int .i64 k ∧ wr.ownsRow w.heap.size 3 1 v k (((rdOf s rs).take k).map (Value.int .i64)) ∧ Below w.heap.size w wr) (fun _ _ i _ => rs.length - (intOf i).toNat)
 case atStart => exact ⟨0, Nat.zero_le _, rfl, World.ownsRow_nil _ _ _ _, Below.refl _ _⟩
 case round =>
  obtain ⟨k, hk, rfl, hown, hnx⟩ := hrel
  have hsz : w.heap.size ≤ wr.heap.size := hnx.size
  by_cases hlt : k < rs.length
  ·obtain ⟨b, off, rfl, hb, c0⟩ := hr k hlt
   obtain ⟨hz, hz'⟩ := rangeE_get rs HE.out k hlt
   have HT : Hid ((rdOf s rs).take (k + 1) = (rdOf s rs).take k ++ [getAt s (rs.getD k 0)]) := take_rd s rs k hlt
   generalize rs.getD k 0 = z at *
   obtain ⟨m, rfl⟩ := Int.eq_ofNat_of_zero_le hz
   have hms : m < s.length := by have := H8.out; omega
   obtain ⟨b', off', rfl, hb', c1⟩ := hs m hms
   have d0 := ext_cell hnx c0
   have d1 := ext_cell hnx c1
   have hg : getAt s (m : Int) = s.getD m 0 := rfl
   rw [hg] at HT
   generalize s.getD m 0 = y at *
   clear c0 c1 hs hr hg hz hz'
   go_wp2_with (first
    | (at_builtin; refine wpList_append_own _ rfl _ _ 25 rfl w.heap.size 3 i0 (.int .i64 0) 1 8 Tryz.underlying25 hi hz0 hz1 hz2 rfl (by decide) _ _ _ rfl (hown.alloc _) ⟨wr.heap.size, 0, none⟩ 1 1 [.int .i64 y] rfl rfl (news_at _ _ _ (by simp)) (ints_oneCell .i64 [y]) (by unfold maxLen; omega) (by omega) (by simp; omega) ?_; intro v' w1 hown' hgrow _)
    | go_in)
   have R : w1.ownsRow w.heap.size 3 1 v' (k + 1) (((rdOf s rs).take (k + 1)).map (Value.int .i64)) := by rw [HT.out, List.map_append]; exact hown'
   have RB := ((hnx.alloc (by omega) _).grown hgrow (by simp; omega) (fun j hj => (hown.lt j hj).1))
   clear hown' hgrow hown hnx d0 d1
   go_wp2
   go_roundw
   case rel => exact ⟨k + 1, by omega, by go_num, R, RB⟩
   case measure => simp [intOf]; omega
  ·have R : wr.ownsRow w.heap.size 3 1 u5 rs.length ((rdOf s rs).map (Value.int .i64)) := by
    have hkk : k = rs.length := by omega
    rw [hkk, List.take_of_length_le (by rw [hkl.out]; exact Nat.le_refl _)] at hown
    exact hown
   clear hown hs hr
   go_wp2
   go_ret
   exact ⟨_, rfl, R, hnx⟩
theorem valuesOf_any (s rs : List Int) (sa ra : Option Addr) (sc rc : Nat) (w : World) (hs : IsInts w sa s) (hr : IsInts w ra rs) (h8 : s.length = 8) (h4 : rs.length ≤ 4) (hE : rangeE rs = 0) :
  Calls Tryz.prog 109 #[.slice sa s.length sc, .slice ra rs.length rc] w fun e w' => ∃ a cap, e = .returned (.slice a (rdOf s rs).length cap) ∧ IsAt w.heap.size w'.heap.size w' a (rdOf s rs) ∧ (a = none → cap = 0) ∧ Below w.heap.size w w' :=
 (valuesOf_own s rs sa ra sc rc w hs hr h8 h4 hE).mono fun e w' ⟨v, he, ho, hb⟩ => by
  obtain ⟨a, cap, rfl, hz, hn⟩ := at_of_owns2 ho
  exact ⟨a, cap, he, hz, hn, hb⟩
end Go.Proofs.YtcgpkonfneofdaaGreat
namespace Go.Proofs.YtcgpkonfneofdaaGreat
structure Good (x : TxA) : Prop where
 r : ∀ k ∈ x.rs, 0 ≤ k ∧ k < 8
 s : ∀ k ∈ keysOf x.ss, 0 ≤ k ∧ k < 8
 n : keysOf x.ss ≠ []
theorem good_of {x : TxA} (h : chkX x = 0) : Good x := by
 obtain ⟨ra, ga, sa, rc, gc, sc, rs, gs, ss⟩ := x
 have h' : chkTx rs gs ss = 0 := h
 obtain ⟨h1, h2⟩ := chk_ranges h'
 obtain ⟨_, _, _, h3⟩ := many_small _ _ _ (chk_parts h').1
 refine ⟨fun k hk => rangeE_in _ h1 k hk, fun k hk => rangeE_in _ h2 k hk, fun h0 => ?_⟩
 have : (keysOf ss).length = 0 := by
  have h0' : keysOf ss = [] := h0
  rw [h0']; rfl
 rw [keys_len] at this
 omega
def rdX (x : TxA) (k : Nat) : Bool := decide ((k : Int) ∈ x.rs)
def wrX (x : TxA) (k : Nat) : Bool := decide ((k : Int) ∈ keysOf x.ss)
def hasX (x : TxA) (k : Nat) : Bool := rdX x k || wrX x k
def clashAt (x y : TxA) (k : Nat) : Bool := (wrX x k && (rdX y k || wrX y k)) || (wrX y k && rdX x k)
theorem clashAt_has (x y : TxA) (k : Nat) : clashAt x y k = (hasX x k && hasX y k && (wrX x k || wrX y k)) := by
 unfold clashAt hasX
 cases wrX x k <;> cases rdX x k <;> cases wrX y k <;> cases rdX y k <;> rfl
theorem clashAt_symm (x y : TxA) (k : Nat) : clashAt x y k = clashAt y x k := by
 rw [clashAt_has, clashAt_has]
 cases hasX x k <;> cases hasX y k <;> cases wrX x k <;> cases wrX y k <;> rfl
theorem lkTo_mem (rs ks : List Int) (p : Int × Bool) : ∀ n, p ∈ lkTo rs ks n ↔ ∃ k : Nat, k < n ∧ ((k : Int) ∈ ks ∨ (k : Int) ∈ rs) ∧ p = ((k : Int), decide ((k : Int) ∈ ks))
 | 0 => by simp [lkTo]
 | n + 1 => by
  rw [lkTo, List.mem_append, lkTo_mem rs ks p n]
  constructor
  ·rintro (⟨k, hk, h⟩ | h)
   ·exact ⟨k, by omega, h⟩
   ·by_cases c : (n : Int) ∈ ks ∨ (n : Int) ∈ rs
    ·rw [if_pos c, List.mem_singleton] at h
     exact ⟨n, by omega, c, h⟩
    ·rw [if_neg c] at h
     cases h
  ·rintro ⟨k, hk, hc, h⟩
   by_cases e : k = n
   ·subst e
    right
    rw [if_pos hc, List.mem_singleton]
    exact h
   ·exact .inl ⟨k, by omega, hc, h⟩
theorem hasX_iff (x : TxA) (k : Nat) : hasX x k = true ↔ ((k : Int) ∈ keysOf x.ss ∨ (k : Int) ∈ x.rs) := by
 unfold hasX rdX wrX
 simp [Or.comm]
theorem lkX_mem (x : TxA) (p : Int × Bool) : p ∈ lkTo x.rs (keysOf x.ss) 8 ↔ ∃ k : Nat, k < 8 ∧ hasX x k = true ∧ p = ((k : Int), wrX x k) := by
 rw [lkTo_mem]
 constructor
 ·rintro ⟨k, hk, hc, h⟩; exact ⟨k, hk, (hasX_iff x k).2 hc, h⟩
 ·rintro ⟨k, hk, hc, h⟩; exact ⟨k, hk, (hasX_iff x k).1 hc, h⟩
def gX (l : List TxA) (i : Nat) : TxA := l.getD i x0
end Go.Proofs.YtcgpkonfneofdaaGreat
namespace Go.Proofs.YtcgpkonfneofdaaGreat
open Go.RowKit
theorem marks_get (sh i : Nat) (hi : i < sh) : ∀ ks : List Int, (marks sh ks).getD i false = ks.any (fun k => k.toNat % sh == i) := by
 have key : ∀ (ks : List Int) (bs : List Bool), bs.length = sh → (ks.foldl (fun bs k => bs.set (k.toNat % sh) true) bs).getD i false = (bs.getD i false || ks.any (fun k => k.toNat % sh == i)) := by
  intro ks
  induction ks with
  | nil => intro bs _; simp
  | cons k t ih =>
   intro bs hb
   rw [List.foldl_cons, ih _ (by simpa using hb), List.any_cons]
   by_cases c : k.toNat % sh = i
   ·subst c
    have e : (bs.set (k.toNat % sh) true).getD (k.toNat % sh) false = true := by simp [List.getD, hb, hi]
    rw [e]
    simp
   ·have e : (bs.set (k.toNat % sh) true).getD i false = bs.getD i false := by simp [List.getD, c]
    rw [e]
    have e2 : (k.toNat % sh == i) = false := by simpa using c
    rw [e2, Bool.false_or]
 intro ks
 unfold marks
 rw [key ks _ (List.length_replicate)]
 simp [List.getD, hi]
theorem keys_any (L : List (Int × Bool)) (f : Int → Bool) : (keysIn L).any f = L.any (fun p => f p.1) := by
 unfold keysIn
 rw [List.any_map]
 rfl
theorem sets_any (L : List (Int × Bool)) (f : Int → Bool) : (setsIn L).any f = L.any (fun p => f p.1 && p.2) := by
 unfold setsIn
 rw [List.any_map, List.any_filter]
 congr 1
 funext p
 cases p.2 <;> simp
end Go.Proofs.YtcgpkonfneofdaaGreat
namespace Go.Proofs.YtcgpkonfneofdaaGreat
structure SA where
 st : List Int
 rd : List (List Bool)
 wr : List (List Bool)
 vs : List (List Int)
def ptL (sh : Nat) (x : TxA) : List Bool := marks sh (keysIn (lkTo x.rs (keysOf x.ss) 8))
def acL (sh : Nat) (x : TxA) : List Bool := marks sh (setsIn (lkTo x.rs (keysOf x.ss) 8))
def ptB (sh : Nat) (x : TxA) (k : Nat) : Bool := (ptL sh x).getD k false
def acB (sh : Nat) (x : TxA) (k : Nat) : Bool := (acL sh x).getD k false
theorem ptB_iff {sh : Nat} {x : TxA} {k : Nat} (hk : k < sh) : ptB sh x k = true ↔ ∃ c, c < 8 ∧ hasX x c = true ∧ c % sh = k := by
 unfold ptB ptL
 rw [marks_get sh k hk, keys_any, List.any_eq_true]
 constructor
 ·rintro ⟨p, hp, h⟩
  obtain ⟨c, h8, hc, rfl⟩ := (lkX_mem x p).1 hp
  exact ⟨c, h8, hc, by simpa using h⟩
 ·rintro ⟨c, h8, hc, h⟩
  exact ⟨_, (lkX_mem x _).2 ⟨c, h8, hc, rfl⟩, by simpa using h⟩
theorem acB_iff {sh : Nat} {x : TxA} {k : Nat} (hk : k < sh) : acB sh x k = true ↔ ∃ c, c < 8 ∧ wrX x c = true ∧ c % sh = k := by
 unfold acB acL
 rw [marks_get sh k hk, sets_any, List.any_eq_true]
 constructor
 ·rintro ⟨p, hp, h⟩
  obtain ⟨c, h8, hc, rfl⟩ := (lkX_mem x p).1 hp
  simp only [Bool.and_eq_true] at h
  exact ⟨c, h8, h.2, by simpa using h.1⟩
 ·rintro ⟨c, h8, hc, h⟩
  exact ⟨_, (lkX_mem x _).2 ⟨c, h8, by simp [hasX, hc], rfl⟩, by simp [hc, h]⟩
theorem acB_ptB {sh : Nat} {x : TxA} {k : Nat} (hk : k < sh) (h : acB sh x k = true) : ptB sh x k = true := by
 obtain ⟨c, h8, hc, e⟩ := (acB_iff hk).1 h
 exact (ptB_iff hk).2 ⟨c, h8, by simp [hasX, hc], e⟩
def at2 (R : List (List Bool)) (n k : Nat) : Bool := (R.getD n []).getD k false
def setB (R : List (List Bool)) (n k : Nat) : List (List Bool) := R.set n ((R.getD n []).set k true)
theorem getD_set {α : Type} (l : List α) (i j : Nat) (v d : α) (h : i < l.length) : (l.set i v).getD j d = if i = j then v else l.getD j d := by
 simp only [List.getD, List.getElem?_set]
 by_cases e : i = j
 ·subst e; simp [h]
 ·simp [e]
theorem at2_setB {R : List (List Bool)} {n k : Nat} (hn : n < R.length) (hk : k < (R.getD n []).length) (m j : Nat) : at2 (setB R n k) m j = if n = m ∧ k = j then true else at2 R m j := by
 unfold at2 setB
 rw [getD_set R n m _ _ hn]
 by_cases e : n = m
 ·subst e
  rw [if_pos rfl, getD_set _ k j _ _ hk]
  by_cases e2 : k = j
  ·rw [if_pos e2, if_pos ⟨rfl, e2⟩]
  ·rw [if_neg e2, if_neg (fun h => e2 h.2)]
 ·rw [if_neg e, if_neg (fun h => e h.1)]
theorem setB_len (R : List (List Bool)) (n k : Nat) : (setB R n k).length = R.length := by simp [setB]
theorem setB_row (R : List (List Bool)) (n k m : Nat) : ((setB R n k).getD m []).length = (R.getD m []).length := by
 unfold setB
 by_cases hn : n < R.length
 ·rw [getD_set R n m _ _ hn]
  by_cases e : n = m
  ·subst e; simp
  ·rw [if_neg e]
 ·rw [List.set_eq_of_length_le (by omega)]
def allRd (sh : Nat) (l : List TxA) (S : SA) (n : Nat) : Bool := (List.range sh).all fun k => !ptB sh (gX l n) k || at2 S.rd n k
def goneB (sh : Nat) (l : List TxA) (S : SA) (n k : Nat) : Bool := if ptB sh (gX l n) k then (if acB sh (gX l n) k then at2 S.wr n k else at2 S.rd n k) else true
def clK (sh : Nat) (x y : TxA) (k : Nat) : Bool := (List.range 8).any fun c => c % sh == k && clashAt x y c
def blkTo (sh : Nat) (l : List TxA) (S : SA) (n k m : Nat) : Bool := (List.range m).any fun a => !goneB sh l S a k && clK sh (gX l a) (gX l n) k
def blkB (sh : Nat) (l : List TxA) (S : SA) (n k : Nat) : Bool := blkTo sh l S n k n
def hasB (sh : Nat) (l : List TxA) (kind n k : Nat) : Bool := if kind = 2 then acB sh (gX l n) k else ptB sh (gX l n) k
def doneB (S : SA) (kind n k : Nat) : Bool := if kind = 2 then at2 S.wr n k else at2 S.rd n k
def freeB (sh : Nat) (l : List TxA) (S : SA) (kind n k : Nat) : Bool := if kind = 2 then allRd sh l S n else !blkB sh l S n k
def mayB (sh : Nat) (l : List TxA) (S : SA) (kind n k : Nat) : Bool := hasB sh l kind n k && !doneB S kind n k && freeB sh l S kind n k
theorem allRd_iff {sh : Nat} {l : List TxA} {S : SA} {n : Nat} : allRd sh l S n = true ↔ ∀ k, k < sh → ptB sh (gX l n) k = true → at2 S.rd n k = true := by
 unfold allRd
 rw [List.all_eq_true]
 constructor
 ·intro h k hk hp
  have := h k (List.mem_range.2 hk)
  rw [hp] at this
  simpa using this
 ·intro h k hk
  have := h k (List.mem_range.1 hk)
  cases hp : ptB sh (gX l n) k
  ·simp
  ·simp [this hp]
theorem clK_iff {sh : Nat} {x y : TxA} {k : Nat} : clK sh x y k = true ↔ ∃ c, c < 8 ∧ c % sh = k ∧ clashAt x y c = true := by
 unfold clK
 rw [List.any_eq_true]
 constructor
 ·rintro ⟨c, hc, h⟩
  simp only [Bool.and_eq_true, beq_iff_eq] at h
  exact ⟨c, List.mem_range.1 hc, h.1, h.2⟩
 ·rintro ⟨c, hc, h1, h2⟩
  exact ⟨c, List.mem_range.2 hc, by simp [h1, h2]⟩
theorem blkB_false {sh : Nat} {l : List TxA} {S : SA} {n k : Nat} : blkB sh l S n k = false ↔ ∀ a, a < n → clK sh (gX l a) (gX l n) k = true → goneB sh l S a k = true := by
 unfold blkB blkTo
 rw [← Bool.not_eq_true, List.any_eq_true]
 constructor
 ·intro h a ha hc
  cases hg : goneB sh l S a k with
  | true => rfl
  | false => exact absurd ⟨a, List.mem_range.2 ha, by simp [hg, hc]⟩ h
 ·rintro h ⟨a, ha, hc⟩
  simp only [Bool.and_eq_true, Bool.not_eq_true'] at hc
  rw [h a (List.mem_range.1 ha) hc.2] at hc
  exact absurd hc.1 (by simp)
def formB (sh : Nat) (l : List TxA) (S : SA) : Bool := decide (S.st.length = 8) && decide (S.rd.length = l.length) && decide (S.wr.length = l.length) && decide (S.vs.length = l.length) && (List.range l.length).all fun n => decide ((S.rd.getD n []).length = sh) && decide ((S.wr.getD n []).length = sh) && decide ((S.vs.getD n []).length = (gX l n).rs.length)
def truthB (sh : Nat) (l : List TxA) (S : SA) : Bool := (List.range l.length).all fun n => (List.range sh).all fun k => (!at2 S.rd n k || ptB sh (gX l n) k) && (!at2 S.wr n k || (acB sh (gX l n) k && allRd sh l S n))
structure Form (sh : Nat) (l : List TxA) (S : SA) : Prop where
 st : S.st.length = 8
 rd : S.rd.length = l.length
 wr : S.wr.length = l.length
 vs : S.vs.length = l.length
 rn : ∀ n, n < l.length → (S.rd.getD n []).length = sh
 wn : ∀ n, n < l.length → (S.wr.getD n []).length = sh
 vn : ∀ n, n < l.length → (S.vs.getD n []).length = (gX l n).rs.length
structure Truth (sh : Nat) (l : List TxA) (S : SA) : Prop where
 r : ∀ n k, n < l.length → k < sh → at2 S.rd n k = true → ptB sh (gX l n) k = true
 w : ∀ n k, n < l.length → k < sh → at2 S.wr n k = true → acB sh (gX l n) k = true ∧ allRd sh l S n = true
theorem formB_iff {sh : Nat} {l : List TxA} {S : SA} : formB sh l S = true ↔ Form sh l S := by
 unfold formB
 simp only [Bool.and_eq_true, decide_eq_true_eq, List.all_eq_true, List.mem_range]
 constructor
 ·rintro ⟨⟨⟨⟨h1, h2⟩, h3⟩, h4⟩, h5⟩
  exact ⟨h1, h2, h3, h4, fun n hn => (h5 n hn).1.1, fun n hn => (h5 n hn).1.2, fun n hn => (h5 n hn).2⟩
 ·intro h
  exact ⟨⟨⟨⟨h.st, h.rd⟩, h.wr⟩, h.vs⟩, fun n hn => ⟨⟨h.rn n hn, h.wn n hn⟩, h.vn n hn⟩⟩
theorem truthB_iff {sh : Nat} {l : List TxA} {S : SA} : truthB sh l S = true ↔ Truth sh l S := by
 unfold truthB
 simp only [Bool.and_eq_true, List.all_eq_true, List.mem_range, Bool.or_eq_true, Bool.not_eq_true']
 constructor
 ·intro h
  refine ⟨fun n k hn hk hr => ?_, fun n k hn hk hw => ?_⟩
  ·rcases (h n hn k hk).1 with h1 | h1
   ·rw [hr] at h1; cases h1
   ·exact h1
  ·rcases (h n hn k hk).2 with h1 | h1
   ·rw [hw] at h1; cases h1
   ·exact h1
 ·intro h n hn k hk
  refine ⟨?_, ?_⟩
  ·cases e : at2 S.rd n k
   ·exact .inl rfl
   ·exact .inr (h.r n k hn hk e)
  ·cases e : at2 S.wr n k
   ·exact .inl rfl
   ·exact .inr (h.w n k hn hk e)
def stE (m : Int) (l : List TxA) (S : SA) : Int := if planE m l = 0 then (if formB m.toNat l S && truthB m.toNat l S then 0 else 1) else planE m l
def mixV (sh k : Nat) (s : List Int) : List Int → List Int → List Int
 | r :: rs, v :: vs => (if r.toNat % sh = k then getAt s r else v) :: mixV sh k s rs vs
 | _, vs => vs
def putSh (sh k : Nat) : List Int → List Int → List Int → List Int
 | s, key :: ks, v :: vs => putSh sh k (if key.toNat % sh = k then s.set key.toNat v else s) ks vs
 | s, _, _ => s
def readX (sh : Nat) (l : List TxA) (S : SA) (n k : Nat) : SA := { S with rd := setB S.rd n k, vs := S.vs.set n (mixV sh k S.st (gX l n).rs (S.vs.getD n [])) }
def writeX (sh : Nat) (l : List TxA) (S : SA) (n k : Nat) : SA := { S with wr := setB S.wr n k, st := putSh sh k S.st (keysOf (gX l n).ss) (madeOf (S.vs.getD n []) (gX l n).gs (gX l n).ss) }
def doX (sh : Nat) (l : List TxA) (S : SA) (kind n k : Nat) : SA := if kind = 2 then writeX sh l S n k else readX sh l S n k
theorem mixV_len (sh k : Nat) (s : List Int) : ∀ (rs vs : List Int), (mixV sh k s rs vs).length = vs.length
 | [], vs => by cases vs <;> rfl
 | r :: rs, [] => rfl
 | r :: rs, v :: vs => by simp [mixV, mixV_len sh k s rs vs]
theorem mixV_get (sh k : Nat) (s : List Int) : ∀ (rs vs : List Int) (i : Nat), i < rs.length → i < vs.length → (mixV sh k s rs vs).getD i 0 = if (rs.getD i 0).toNat % sh = k then getAt s (rs.getD i 0) else vs.getD i 0
 | [], _, i, h, _ => by simp at h
 | r :: rs, [], i, _, h => by simp at h
 | r :: rs, v :: vs, 0, _, _ => by simp [mixV]
 | r :: rs, v :: vs, i + 1, h, h' => by
  have := mixV_get sh k s rs vs i (by simpa using h) (by simpa using h')
  simpa [mixV] using this
theorem putSh_len (sh k : Nat) : ∀ (ks s vs : List Int), (putSh sh k s ks vs).length = s.length
 | [], s, vs => by cases vs <;> rfl
 | key :: ks, s, [] => rfl
 | key :: ks, s, v :: vs => by
  rw [putSh, putSh_len sh k ks]
  by_cases h : key.toNat % sh = k
  ·rw [if_pos h]; simp
  ·rw [if_neg h]
theorem putSh_far (sh k c : Nat) : ∀ (ks s vs : List Int), (∀ key ∈ ks, key.toNat % sh = k → key.toNat ≠ c) → (putSh sh k s ks vs).getD c 0 = s.getD c 0
 | [], s, vs, _ => by cases vs <;> rfl
 | key :: ks, s, [], _ => rfl
 | key :: ks, s, v :: vs, h => by
  rw [putSh, putSh_far sh k c ks _ vs (fun k' hk => h k' (List.mem_cons_of_mem _ hk))]
  by_cases e : key.toNat % sh = k
  ·rw [if_pos e, getD_set_ne _ _ _ _ (h key List.mem_cons_self e)]
  ·rw [if_neg e]
theorem putSh_at (sh k c : Nat) (hc : c % sh = k) : ∀ (ks s s' vs : List Int), s.length = s'.length → s.getD c 0 = s'.getD c 0 → (putSh sh k s ks vs).getD c 0 = (putAll s' ks vs).getD c 0
 | [], s, s', vs, _, h => by cases vs <;> exact h
 | key :: ks, s, s', [], _, h => h
 | key :: ks, s, s', v :: vs, hl, h => by
  rw [putSh, putAll]
  by_cases e : key.toNat % sh = k
  ·rw [if_pos e]
   refine putSh_at sh k c hc ks _ _ vs (by simpa using hl) ?_
   by_cases ec : key.toNat = c
   ·subst ec
    simp only [List.getD, List.getElem?_set, hl]
    by_cases hh : key.toNat < s'.length
    ·simp [hh]
    ·simp [hh]
   ·rw [getD_set_ne _ _ _ _ ec, getD_set_ne _ _ _ _ ec, h]
  ·rw [if_neg e]
   refine putSh_at sh k c hc ks _ _ vs (by simpa using hl) ?_
   have ec : key.toNat ≠ c := fun ec => e (by rw [ec]; exact hc)
   rw [getD_set_ne _ _ _ _ ec, h]
def canR (sh : Nat) (l : List TxA) (S : SA) (kind n : Nat) (j : Nat) : List (Nat × Nat × Nat) := ((List.range j).filter (mayB sh l S kind n)).map fun k => (kind, n, k)
def canT (sh : Nat) (l : List TxA) (S : SA) (kind : Nat) (m : Nat) : List (Nat × Nat × Nat) := (List.range m).flatMap fun n => canR sh l S kind n sh
def canK (sh : Nat) (l : List TxA) (S : SA) (kind : Nat) : List (Nat × Nat × Nat) := canT sh l S kind l.length
def canL (sh : Nat) (l : List TxA) (S : SA) : List (Nat × Nat × Nat) := canK sh l S 1 ++ canK sh l S 2
theorem canR_step (sh : Nat) (l : List TxA) (S : SA) (kind n j : Nat) : canR sh l S kind n (j + 1) = canR sh l S kind n j ++ (if mayB sh l S kind n j then [(kind, n, j)] else []) := by
 unfold canR
 rw [List.range_succ, List.filter_append, List.map_append]
 cases h : mayB sh l S kind n j <;> simp [h]
theorem canT_step (sh : Nat) (l : List TxA) (S : SA) (kind m : Nat) : canT sh l S kind (m + 1) = canT sh l S kind m ++ canR sh l S kind m sh := by
 unfold canT
 rw [List.range_succ, List.flatMap_append]
 simp
theorem canR_len (sh : Nat) (l : List TxA) (S : SA) (kind n j : Nat) : (canR sh l S kind n j).length ≤ j := by
 unfold canR
 rw [List.length_map]
 exact Nat.le_trans (List.length_filter_le _ _) (by simp)
theorem canT_len (sh : Nat) (l : List TxA) (S : SA) (kind : Nat) : ∀ m, (canT sh l S kind m).length ≤ m * sh
 | 0 => by simp [canT]
 | m + 1 => by
  have h1 := canT_len sh l S kind m
  have h2 := canR_len sh l S kind m sh
  rw [canT_step, List.length_append, Nat.succ_mul]
  omega
theorem canL_mem {sh : Nat} {l : List TxA} {S : SA} {x : Nat × Nat × Nat} : x ∈ canL sh l S ↔ (x.1 = 1 ∨ x.1 = 2) ∧ x.2.1 < l.length ∧ x.2.2 < sh ∧ mayB sh l S x.1 x.2.1 x.2.2 = true := by
 obtain ⟨kd, n, k⟩ := x
 have key : ∀ kind, ((kd, n, k) ∈ canK sh l S kind ↔ kd = kind ∧ n < l.length ∧ k < sh ∧ mayB sh l S kind n k = true) := by
  intro kind
  unfold canK canT canR
  simp only [List.mem_flatMap, List.mem_range, List.mem_map, List.mem_filter, Prod.mk.injEq]
  constructor
  ·rintro ⟨m, hm, j, ⟨hj, h⟩, rfl, rfl, rfl⟩; exact ⟨rfl, hm, hj, h⟩
  ·rintro ⟨rfl, hn, hk, h⟩; exact ⟨n, hn, k, ⟨hk, h⟩, rfl, rfl, rfl⟩
 unfold canL
 rw [List.mem_append, key 1, key 2]
 constructor
 ·rintro (⟨rfl, h⟩ | ⟨rfl, h⟩)
  ·exact ⟨.inl rfl, h⟩
  ·exact ⟨.inr rfl, h⟩
 ·rintro ⟨rfl | rfl, h⟩
  ·exact .inl ⟨rfl, h⟩
  ·exact .inr ⟨rfl, h⟩
def overTo (sh : Nat) (l : List TxA) (S : SA) (n : Nat) : Bool := (List.range n).all fun m => (List.range sh).all fun k => goneB sh l S m k
def overB (sh : Nat) (l : List TxA) (S : SA) : Bool := overTo sh l S l.length
theorem overB_iff {sh : Nat} {l : List TxA} {S : SA} : overB sh l S = true ↔ ∀ n k, n < l.length → k < sh → goneB sh l S n k = true := by
 unfold overB overTo
 simp only [List.all_eq_true, List.mem_range]
 exact ⟨fun h n k hn hk => h n hn k hk, fun h n hn k hk => h n k hn hk⟩
def stepE (sh : Nat) (l : List TxA) (S : SA) (kind n k : Int) : Int :=
 if kind = 1 ∨ kind = 2 then
  if n < 0 ∨ (l.length : Int) ≤ n ∨ k < 0 ∨ (sh : Int) ≤ k then 5
  else if hasB sh l kind.toNat n.toNat k.toNat then (if doneB S kind.toNat n.toNat k.toNat then 7 else if freeB sh l S kind.toNat n.toNat k.toNat then 0 else 6)
  else 5
 else 4
end Go.Proofs.YtcgpkonfneofdaaGreat
namespace Go.Proofs.YtcgpkonfneofdaaGreat
theorem mayB_parts {sh : Nat} {l : List TxA} {S : SA} {kind n k : Nat} (h : mayB sh l S kind n k = true) : hasB sh l kind n k = true ∧ doneB S kind n k = false ∧ freeB sh l S kind n k = true := by
 unfold mayB at h
 simp only [Bool.and_eq_true, Bool.not_eq_true'] at h
 exact ⟨h.1.1, h.1.2, h.2⟩
theorem mayB_of {sh : Nat} {l : List TxA} {S : SA} {kind n k : Nat} (h1 : hasB sh l kind n k = true) (h2 : doneB S kind n k = false) (h3 : freeB sh l S kind n k = true) : mayB sh l S kind n k = true := by
 unfold mayB
 simp [h1, h2, h3]
theorem form_read {sh : Nat} {l : List TxA} {S : SA} {n k : Nat} (h : Form sh l S) (hn : n < l.length) : Form sh l (readX sh l S n k) := by
 refine ⟨h.st, ?_, h.wr, ?_, fun m hm => ?_, h.wn, fun m hm => ?_⟩
 ·show (setB S.rd n k).length = _
  rw [setB_len]; exact h.rd
 ·show (S.vs.set n _).length = _
  rw [List.length_set]; exact h.vs
 ·show ((setB S.rd n k).getD m []).length = _
  rw [setB_row]; exact h.rn m hm
 ·show ((S.vs.set n _).getD m []).length = _
  rw [getD_set _ _ _ _ _ (by rw [h.vs]; exact hn)]
  by_cases e : n = m
  ·subst e
   rw [if_pos rfl, mixV_len]; exact h.vn n hn
  ·rw [if_neg e]; exact h.vn m hm
theorem form_write {sh : Nat} {l : List TxA} {S : SA} {n k : Nat} (h : Form sh l S) : Form sh l (writeX sh l S n k) := by
 refine ⟨?_, h.rd, ?_, h.vs, h.rn, fun m hm => ?_, h.vn⟩
 ·show (putSh _ _ _ _ _).length = _
  rw [putSh_len]; exact h.st
 ·show (setB S.wr n k).length = _
  rw [setB_len]; exact h.wr
 ·show ((setB S.wr n k).getD m []).length = _
  rw [setB_row]; exact h.wn m hm
theorem rd_read {sh : Nat} {l : List TxA} {S : SA} {n k : Nat} (h : Form sh l S) (hn : n < l.length) (hk : k < sh) (m j : Nat) : at2 (readX sh l S n k).rd m j = if n = m ∧ k = j then true else at2 S.rd m j :=
 at2_setB (by rw [h.rd]; exact hn) (by rw [h.rn n hn]; exact hk) m j
theorem wr_write {sh : Nat} {l : List TxA} {S : SA} {n k : Nat} (h : Form sh l S) (hn : n < l.length) (hk : k < sh) (m j : Nat) : at2 (writeX sh l S n k).wr m j = if n = m ∧ k = j then true else at2 S.wr m j :=
 at2_setB (by rw [h.wr]; exact hn) (by rw [h.wn n hn]; exact hk) m j
theorem rd_up {sh : Nat} {l : List TxA} {S : SA} {n k : Nat} (h : Form sh l S) (hn : n < l.length) (hk : k < sh) {m j : Nat} (hr : at2 S.rd m j = true) : at2 (readX sh l S n k).rd m j = true := by
 rw [rd_read h hn hk]; split <;> first | rfl | exact hr
theorem wr_up {sh : Nat} {l : List TxA} {S : SA} {n k : Nat} (h : Form sh l S) (hn : n < l.length) (hk : k < sh) {m j : Nat} (hr : at2 S.wr m j = true) : at2 (writeX sh l S n k).wr m j = true := by
 rw [wr_write h hn hk]; split <;> first | rfl | exact hr
theorem allRd_read {sh : Nat} {l : List TxA} {S : SA} {n k : Nat} (h : Form sh l S) (hn : n < l.length) (hk : k < sh) {m : Nat} (hr : allRd sh l S m = true) : allRd sh l (readX sh l S n k) m = true :=
 allRd_iff.2 fun j hj hp => rd_up h hn hk (allRd_iff.1 hr j hj hp)
theorem truth_read {sh : Nat} {l : List TxA} {S : SA} {n k : Nat} (h : Form sh l S) (t : Truth sh l S) (hn : n < l.length) (hk : k < sh) (hp : ptB sh (gX l n) k = true) : Truth sh l (readX sh l S n k) := by
 refine ⟨fun m j hm hj hr => ?_, fun m j hm hj hw => ?_⟩
 ·rw [rd_read h hn hk] at hr
  by_cases e : n = m ∧ k = j
  ·obtain ⟨rfl, rfl⟩ := e; exact hp
  ·rw [if_neg e] at hr; exact t.r m j hm hj hr
 ·obtain ⟨h1, h2⟩ := t.w m j hm hj hw
  exact ⟨h1, allRd_read h hn hk h2⟩
theorem truth_write {sh : Nat} {l : List TxA} {S : SA} {n k : Nat} (h : Form sh l S) (t : Truth sh l S) (hn : n < l.length) (hk : k < sh) (ha : acB sh (gX l n) k = true) (hr : allRd sh l S n = true) : Truth sh l (writeX sh l S n k) := by
 refine ⟨t.r, fun m j hm hj hw => ?_⟩
 rw [wr_write h hn hk] at hw
 by_cases e : n = m ∧ k = j
 ·obtain ⟨rfl, rfl⟩ := e; exact ⟨ha, hr⟩
 ·rw [if_neg e] at hw; exact t.w m j hm hj hw
theorem may_read {sh : Nat} {l : List TxA} {S : SA} {n k : Nat} (h : mayB sh l S 1 n k = true) : ptB sh (gX l n) k = true ∧ at2 S.rd n k = false ∧ blkB sh l S n k = false := by
 obtain ⟨h1, h2, h3⟩ := mayB_parts h
 exact ⟨h1, h2, by simpa [freeB] using h3⟩
theorem may_write {sh : Nat} {l : List TxA} {S : SA} {n k : Nat} (h : mayB sh l S 2 n k = true) : acB sh (gX l n) k = true ∧ at2 S.wr n k = false ∧ allRd sh l S n = true := mayB_parts h
theorem gone_read {sh : Nat} {l : List TxA} {S : SA} (t : Truth sh l S) {n k : Nat} (hn : n < l.length) (hk : k < sh) (hp : ptB sh (gX l n) k = true) (hg : goneB sh l S n k = true) : at2 S.rd n k = true := by
 unfold goneB at hg
 rw [if_pos hp] at hg
 cases ha : acB sh (gX l n) k
 ·rw [ha] at hg; simpa using hg
 ·rw [ha, if_pos rfl] at hg
  exact allRd_iff.1 (t.w n k hn hk hg).2 k hk hp
theorem least {P : Nat → Prop} : ∀ n, P n → ∃ m, P m ∧ ∀ j, j < m → ¬ P j := by
 intro n
 induction n using Nat.strongRecOn with
 | ind n ih =>
  intro h
  by_cases e : ∃ j, j < n ∧ P j
  ·obtain ⟨j, hj, hp⟩ := e; exact ih j hj hp
  ·exact ⟨n, h, fun j hj hp => e ⟨j, hj, hp⟩⟩
theorem some_can {sh : Nat} {l : List TxA} {S : SA} (h : overB sh l S = false) : canL sh l S ≠ [] := by
 have h1 : ∃ n, n < l.length ∧ ∃ k, k < sh ∧ goneB sh l S n k = false := by
  apply Classical.byContradiction
  intro hc
  have : overB sh l S = true := overB_iff.2 fun n k hn hk => by
   cases e : goneB sh l S n k with
   | true => rfl
   | false => exact absurd ⟨n, hn, k, hk, e⟩ hc
  rw [this] at h; cases h
 obtain ⟨n0, hP⟩ := h1
 obtain ⟨n, ⟨hn, k, hk, hg⟩, hmin⟩ := least (P := fun n => n < l.length ∧ ∃ k, k < sh ∧ goneB sh l S n k = false) n0 hP
 have hp : ptB sh (gX l n) k = true := by
  unfold goneB at hg
  cases hp : ptB sh (gX l n) k with
  | true => rfl
  | false => rw [hp] at hg; simp at hg
 have hfree : ∀ j, j < sh → blkB sh l S n j = false := fun j hj => blkB_false.2 fun a ha _ => by
  cases e : goneB sh l S a j with
  | true => rfl
  | false => exact absurd ⟨by omega, j, hj, e⟩ (hmin a ha)
 by_cases hr : allRd sh l S n = true
 ·have hrk := allRd_iff.1 hr k hk hp
  unfold goneB at hg
  rw [if_pos hp] at hg
  cases ha : acB sh (gX l n) k with
  | false => rw [ha] at hg; simp [hrk] at hg
  | true =>
   rw [ha, if_pos rfl] at hg
   exact List.ne_nil_of_mem (canL_mem.2 ⟨.inr rfl, hn, hk, mayB_of (kind := 2) ha hg hr⟩ : (2, n, k) ∈ canL sh l S)
 ·have : ∃ j, j < sh ∧ ptB sh (gX l n) j = true ∧ at2 S.rd n j = false := by
   apply Classical.byContradiction
   intro hc
   refine hr (allRd_iff.2 fun j hj hpj => ?_)
   cases e : at2 S.rd n j with
   | true => rfl
   | false => exact absurd ⟨j, hj, hpj, e⟩ hc
  obtain ⟨j, hj, hpj, hrj⟩ := this
  exact List.ne_nil_of_mem (canL_mem.2 ⟨.inl rfl, hn, hj, mayB_of (kind := 1) hpj hrj (by simp [freeB, hfree j hj])⟩ : (1, n, j) ∈ canL sh l S)
def c1 (f : Nat → Bool) : Nat → Nat
 | 0 => 0
 | j + 1 => c1 f j + (if f j then 1 else 0)
def c2 (f : Nat → Nat → Bool) (sh : Nat) : Nat → Nat
 | 0 => 0
 | n + 1 => c2 f sh n + c1 (f n) sh
theorem c1_congr (f g : Nat → Bool) : ∀ J, (∀ j, j < J → f j = g j) → c1 f J = c1 g J
 | 0, _ => rfl
 | J + 1, h => by rw [c1, c1, c1_congr f g J (fun j hj => h j (by omega)), h J (by omega)]
theorem c2_congr (f g : Nat → Nat → Bool) (sh : Nat) : ∀ N, (∀ n j, n < N → j < sh → f n j = g n j) → c2 f sh N = c2 g sh N
 | 0, _ => rfl
 | N + 1, h => by rw [c2, c2, c2_congr f g sh N (fun n j hn hj => h n j (by omega) hj), c1_congr _ _ sh (fun j hj => h N j (by omega) hj)]
theorem c1_one (f g : Nat → Bool) (k : Nat) (hf : f k = false) (hg : g k = true) : ∀ J, k < J → (∀ j, j < J → j ≠ k → f j = g j) → c1 g J = c1 f J + 1
 | 0, h, _ => by omega
 | J + 1, h, he => by
  rw [c1, c1]
  by_cases e : k = J
  ·subst e
   rw [hf, hg, c1_congr g f k (fun j hj => (he j (by omega) (by omega)).symm)]
   simp
  ·rw [c1_one f g k hf hg J (by omega) (fun j hj hn => he j (by omega) hn), he J (by omega) (fun h => e h.symm)]
   omega
theorem c2_one (f g : Nat → Nat → Bool) (sh m k : Nat) (hk : k < sh) (hf : f m k = false) (hg : g m k = true) : ∀ N, m < N → (∀ n j, n < N → j < sh → ¬ (n = m ∧ j = k) → f n j = g n j) → c2 g sh N = c2 f sh N + 1
 | 0, h, _ => by omega
 | N + 1, h, he => by
  rw [c2, c2]
  by_cases e : m = N
  ·subst e
   rw [c2_congr g f sh m (fun n j hn hj => (he n j (by omega) hj (fun h => by omega)).symm), c1_one (f m) (g m) k hf hg sh hk (fun j hj hn => he m j (by omega) hj (fun h => hn h.2))]
   omega
  ·rw [c2_one f g sh m k hk hf hg N (by omega) (fun n j hn hj hh => he n j (by omega) hj hh), c1_congr (g N) (f N) sh (fun j hj => (he N j (by omega) hj (fun h => e h.1.symm)).symm)]
   omega
theorem c1_le (f : Nat → Bool) : ∀ J, c1 f J ≤ J
 | 0 => Nat.le_refl _
 | J + 1 => by
  have := c1_le f J
  rw [c1]
  split <;> omega
theorem c2_le (f : Nat → Nat → Bool) (sh : Nat) : ∀ N, c2 f sh N ≤ N * sh
 | 0 => by simp [c2]
 | N + 1 => by
  have h1 := c2_le f sh N
  have h2 := c1_le (f N) sh
  rw [c2, Nat.succ_mul]
  omega
def cnt (sh : Nat) (l : List TxA) (S : SA) : Nat := c2 (at2 S.rd) sh l.length + c2 (at2 S.wr) sh l.length
def cntAll (sh : Nat) (l : List TxA) : Nat := c2 (fun n k => ptB sh (gX l n) k) sh l.length + c2 (fun n k => acB sh (gX l n) k) sh l.length
theorem cnt_do {sh : Nat} {l : List TxA} {S : SA} {kind n k : Nat} (hkd : kind = 1 ∨ kind = 2) (h : Form sh l S) (hn : n < l.length) (hk : k < sh) (hm : mayB sh l S kind n k = true) : cnt sh l (doX sh l S kind n k) = cnt sh l S + 1 := by
 rcases hkd with rfl | rfl
 ·obtain ⟨_, h2, _⟩ := may_read hm
  show c2 (at2 (readX sh l S n k).rd) sh l.length + c2 (at2 S.wr) sh l.length = _
  rw [c2_one (at2 S.rd) (at2 (readX sh l S n k).rd) sh n k hk h2 (by rw [rd_read h hn hk, if_pos ⟨rfl, rfl⟩]) l.length hn (fun m j _ _ hh => by rw [rd_read h hn hk, if_neg (fun e => hh ⟨e.1.symm, e.2.symm⟩)])]
  unfold cnt; omega
 ·obtain ⟨_, h2, _⟩ := may_write hm
  show c2 (at2 S.rd) sh l.length + c2 (at2 (writeX sh l S n k).wr) sh l.length = _
  rw [c2_one (at2 S.wr) (at2 (writeX sh l S n k).wr) sh n k hk h2 (by rw [wr_write h hn hk, if_pos ⟨rfl, rfl⟩]) l.length hn (fun m j _ _ hh => by rw [wr_write h hn hk, if_neg (fun e => hh ⟨e.1.symm, e.2.symm⟩)])]
  unfold cnt; omega
theorem cnt_le (sh : Nat) (l : List TxA) (S : SA) : cnt sh l S ≤ 2 * (l.length * sh) := by
 have h1 := c2_le (at2 S.rd) sh l.length
 have h2 := c2_le (at2 S.wr) sh l.length
 unfold cnt; omega
theorem cnt_over {sh : Nat} {l : List TxA} {S : SA} (t : Truth sh l S) (h : overB sh l S = true) : cnt sh l S = cntAll sh l := by
 have hr : ∀ n j, n < l.length → j < sh → at2 S.rd n j = ptB sh (gX l n) j := fun n j hn hj => by
  cases hp : ptB sh (gX l n) j with
  | true => exact gone_read t hn hj hp (overB_iff.1 h n j hn hj)
  | false =>
   cases e : at2 S.rd n j with
   | false => rfl
   | true => rw [t.r n j hn hj e] at hp; cases hp
 have hw : ∀ n j, n < l.length → j < sh → at2 S.wr n j = acB sh (gX l n) j := fun n j hn hj => by
  cases ha : acB sh (gX l n) j with
  | true =>
   have hg := overB_iff.1 h n j hn hj
   unfold goneB at hg
   rw [if_pos (acB_ptB hj ha), ha, if_pos rfl] at hg
   exact hg
  | false =>
   cases e : at2 S.wr n j with
   | false => rfl
   | true => rw [(t.w n j hn hj e).1] at ha; cases ha
 unfold cnt cntAll
 rw [c2_congr _ _ sh l.length hr, c2_congr _ _ sh l.length hw]
def serAt (s0 : List Int) (l : List TxA) (n : Nat) : List Int := serEnd s0 (l.take n)
structure Inv (sh : Nat) (l : List TxA) (s0 : List Int) (S : SA) : Prop where
 f : Form sh l S
 t : Truth sh l S
 ahead : ∀ n k, n < l.length → k < sh → at2 S.rd n k = true → ∀ m, m < n → clK sh (gX l m) (gX l n) k = true → goneB sh l S m k = true
 vals : ∀ n k, n < l.length → k < sh → at2 S.rd n k = true → ∀ i, i < (gX l n).rs.length → ((gX l n).rs.getD i 0).toNat % sh = k → (S.vs.getD n []).getD i 0 = getAt (serAt s0 l n) ((gX l n).rs.getD i 0)
 store : ∀ c j, c < 8 → j ≤ l.length → (∀ n, n < l.length → wrX (gX l n) c = true → (at2 S.wr n (c % sh) = true ↔ n < j)) → S.st.getD c 0 = (serAt s0 l j).getD c 0
theorem serAt_step (s0 : List Int) (l : List TxA) (n : Nat) (h : n < l.length) : serAt s0 l (n + 1) = aEnd (serAt s0 l n) (gX l n) := serEnd_step s0 l n h
theorem wrX_key {x : TxA} {c : Nat} (g : Good x) : wrX x c = true ↔ ∃ key ∈ keysOf x.ss, key.toNat = c := by
 unfold wrX
 rw [decide_eq_true_eq]
 constructor
 ·intro h; exact ⟨_, h, by omega⟩
 ·rintro ⟨key, hk, e⟩
  have := g.s key hk
  have : (c : Int) = key := by omega
  rw [this]; exact hk
theorem serAt_skip {l : List TxA} (hg : ∀ n, n < l.length → Good (gX l n)) (s0 : List Int) (c n : Nat) : ∀ j, n ≤ j → j ≤ l.length → (∀ m, n ≤ m → m < j → wrX (gX l m) c = false) → (serAt s0 l j).getD c 0 = (serAt s0 l n).getD c 0
 | 0, h, _, _ => by
  have : n = 0 := by omega
  subst this; rfl
 | j + 1, h, hj, hw => by
  by_cases e : n = j + 1
  ·subst e; rfl
  ·rw [serAt_step s0 l j (by omega)]
   unfold aEnd
   rw [putAll_far _ _ _ _ (fun key hk ek => by
    have := (wrX_key (hg j (by omega))).2 ⟨key, hk, ek⟩
    rw [hw j (by omega) (by omega)] at this; cases this)]
   exact serAt_skip hg s0 c n j (by omega) (by omega) (fun m h1 h2 => hw m h1 (by omega))
theorem clK_of {sh : Nat} {x y : TxA} {c : Nat} (h8 : c < 8) (h : clashAt x y c = true) : clK sh x y (c % sh) = true := clK_iff.2 ⟨c, h8, rfl, h⟩
theorem clash_wr {x y : TxA} {c : Nat} (h : wrX x c = true) (h' : hasX y c = true) : clashAt x y c = true := by
 rw [clashAt_has]; simp [hasX, h] ; simpa [hasX] using h'
theorem clash_rw {x y : TxA} {c : Nat} (h : hasX x c = true) (h' : wrX y c = true) : clashAt x y c = true := by
 rw [clashAt_symm]; exact clash_wr h' h
theorem gone_wr {sh : Nat} {l : List TxA} {S : SA} {m c : Nat} (hsh : 0 < sh) (h8 : c < 8) (hw : wrX (gX l m) c = true) (hg : goneB sh l S m (c % sh) = true) : at2 S.wr m (c % sh) = true := by
 have ha : acB sh (gX l m) (c % sh) = true := (acB_iff (Nat.mod_lt _ hsh)).2 ⟨c, h8, hw, rfl⟩
 unfold goneB at hg
 rw [if_pos (acB_ptB (Nat.mod_lt _ hsh) ha), ha, if_pos rfl] at hg
 exact hg
theorem wr_rd {sh : Nat} {l : List TxA} {S : SA} (t : Truth sh l S) {m k : Nat} (hm : m < l.length) (hk : k < sh) (hw : at2 S.wr m k = true) : at2 S.rd m k = true := by
 obtain ⟨h1, h2⟩ := t.w m k hm hk hw
 exact allRd_iff.1 h2 k hk (acB_ptB hk h1)
theorem none_behind {sh : Nat} {l : List TxA} {s0 : List Int} {S : SA} (hsh : 0 < sh) (I : Inv sh l s0 S) {n m c : Nat} (h8 : c < 8) (hnm : n < m) (hm : m < l.length) (hn : hasX (gX l n) c = true) (hw : wrX (gX l m) c = true) (hg : goneB sh l S n (c % sh) = false) : at2 S.wr m (c % sh) = false := by
 cases e : at2 S.wr m (c % sh) with
 | false => rfl
 | true =>
  have hk : c % sh < sh := Nat.mod_lt _ hsh
  have := I.ahead m (c % sh) hm hk (wr_rd I.t hm hk e) n hnm (clK_of h8 (clash_rw hn hw))
  rw [this] at hg; cases hg
theorem not_gone_unread {sh : Nat} {l : List TxA} {S : SA} (t : Truth sh l S) {n k : Nat} (hn : n < l.length) (hk : k < sh) (hp : ptB sh (gX l n) k = true) (hr : at2 S.rd n k = false) : goneB sh l S n k = false := by
 cases e : goneB sh l S n k with
 | false => rfl
 | true => rw [gone_read t hn hk hp e] at hr; cases hr
theorem gone_up_read {sh : Nat} {l : List TxA} {S : SA} {n k m j : Nat} (h : Form sh l S) (hn : n < l.length) (hk : k < sh) (hg : goneB sh l S m j = true) : goneB sh l (readX sh l S n k) m j = true := by
 unfold goneB at hg ⊢
 cases hp : ptB sh (gX l m) j
 ·rfl
 ·rw [hp, if_pos rfl] at hg
  rw [if_pos rfl]
  cases ha : acB sh (gX l m) j
  ·rw [ha] at hg; exact rd_up h hn hk hg
  ·rw [ha] at hg; exact hg
theorem gone_up_write {sh : Nat} {l : List TxA} {S : SA} {n k m j : Nat} (h : Form sh l S) (hn : n < l.length) (hk : k < sh) (hg : goneB sh l S m j = true) : goneB sh l (writeX sh l S n k) m j = true := by
 unfold goneB at hg ⊢
 cases hp : ptB sh (gX l m) j
 ·rfl
 ·rw [hp, if_pos rfl] at hg
  rw [if_pos rfl]
  cases ha : acB sh (gX l m) j
  ·rw [ha] at hg; exact hg
  ·rw [ha] at hg; exact wr_up h hn hk hg
theorem rs_has {x : TxA} {i : Nat} (g : Good x) (hi : i < x.rs.length) : hasX x (x.rs.getD i 0).toNat = true ∧ (x.rs.getD i 0).toNat < 8 := by
 have hm : x.rs.getD i 0 ∈ x.rs := by simp [List.getD, hi]
 have := g.r _ hm
 refine ⟨?_, by omega⟩
 unfold hasX rdX
 rw [show (((x.rs.getD i 0).toNat : Nat) : Int) = x.rs.getD i 0 by omega, decide_eq_true hm]
 rfl
theorem inv_read {sh : Nat} {l : List TxA} {s0 : List Int} {S : SA} (hsh : 0 < sh) (hg : ∀ n, n < l.length → Good (gX l n)) (I : Inv sh l s0 S) {n k : Nat} (hn : n < l.length) (hk : k < sh) (hm : mayB sh l S 1 n k = true) : Inv sh l s0 (readX sh l S n k) := by
 obtain ⟨hp, hr, hb⟩ := may_read hm
 refine ⟨form_read I.f hn, truth_read I.f I.t hn hk hp, fun a j ha hj hrd m hma hc => ?_, fun a j ha hj hrd i hi he => ?_, I.store⟩
 ·rw [rd_read I.f hn hk] at hrd
  refine gone_up_read I.f hn hk ?_
  by_cases e : n = a ∧ k = j
  ·obtain ⟨rfl, rfl⟩ := e
   exact blkB_false.1 hb m hma hc
  ·rw [if_neg e] at hrd; exact I.ahead a j ha hj hrd m hma hc
 ·show ((S.vs.set n _).getD a []).getD i 0 = _
  rw [getD_set _ _ _ _ _ (by rw [I.f.vs]; exact hn)]
  by_cases e : n = a
  ·subst e
   rw [if_pos rfl, mixV_get sh k S.st _ _ i hi (by rw [I.f.vn n hn]; exact hi)]
   by_cases ek : ((gX l n).rs.getD i 0).toNat % sh = k
   ·rw [if_pos ek]
    obtain ⟨hh, h8⟩ := rs_has (hg n hn) hi
    show S.st.getD ((gX l n).rs.getD i 0).toNat 0 = (serAt s0 l n).getD ((gX l n).rs.getD i 0).toNat 0
    refine I.store _ n h8 (by omega) fun m hm' hw => ?_
    have hng : goneB sh l S n (((gX l n).rs.getD i 0).toNat % sh) = false := by rw [ek]; exact not_gone_unread I.t hn hk hp hr
    constructor
    ·intro hwr
     apply Classical.byContradiction
     intro hle
     by_cases em : m = n
     ·subst em
      have := wr_rd I.t hm' (by rw [ek]; exact hk) hwr
      rw [ek, hr] at this; cases this
     ·rw [none_behind hsh I h8 (by omega) hm' hh hw hng] at hwr; cases hwr
    ·intro hlt
     refine gone_wr hsh h8 hw ?_
     rw [ek]
     refine blkB_false.1 hb m hlt ?_
     rw [← ek]
     exact clK_of h8 (clash_wr hw hh)
   ·rw [if_neg ek]
    rw [rd_read I.f hn hk, if_neg (fun h => ek (by rw [he]; exact h.2.symm))] at hrd
    exact I.vals n j ha hj hrd i hi he
  ·rw [if_neg e]
   rw [rd_read I.f hn hk, if_neg (fun h => e h.1)] at hrd
   exact I.vals a j ha hj hrd i hi he
theorem get_some (l : List Int) (i : Nat) (h : i < l.length) : l[i]? = some (l.getD i 0) := by simp [List.getD, h]
theorem vals_all {sh : Nat} {l : List TxA} {s0 : List Int} {S : SA} (hsh : 0 < sh) (hg : ∀ n, n < l.length → Good (gX l n)) (I : Inv sh l s0 S) {n : Nat} (hn : n < l.length) (hr : allRd sh l S n = true) : S.vs.getD n [] = rdOf (serAt s0 l n) (gX l n).rs := by
 have hlen := I.f.vn n hn
 apply List.ext_getElem?
 intro i
 by_cases hi : i < (gX l n).rs.length
 ·obtain ⟨hh, h8⟩ := rs_has (hg n hn) hi
  have hk : ((gX l n).rs.getD i 0).toNat % sh < sh := Nat.mod_lt _ hsh
  have h1 := I.vals n _ hn hk (allRd_iff.1 hr _ hk ((ptB_iff hk).2 ⟨_, h8, hh, rfl⟩)) i hi rfl
  have hi2 : i < (S.vs.getD n []).length := by omega
  have e1 : (S.vs.getD n [])[i]? = some ((S.vs.getD n []).getD i 0) := get_some _ _ hi2
  rw [e1, h1]
  simp [rdOf, hi]
 ·rw [List.getElem?_eq_none (by omega), List.getElem?_eq_none (by simp [rdOf]; omega)]
theorem inv_write {sh : Nat} {l : List TxA} {s0 : List Int} {S : SA} (hsh : 0 < sh) (h0 : s0.length = 8) (hg : ∀ n, n < l.length → Good (gX l n)) (I : Inv sh l s0 S) {n k : Nat} (hn : n < l.length) (hk : k < sh) (hm : mayB sh l S 2 n k = true) : Inv sh l s0 (writeX sh l S n k) := by
 obtain ⟨ha, hw, hr⟩ := may_write hm
 refine ⟨form_write I.f, truth_write I.f I.t hn hk ha hr, fun a j ha' hj hrd m hma hc => gone_up_write I.f hn hk (I.ahead a j ha' hj hrd m hma hc), I.vals, fun c j h8 hj hcond => ?_⟩
 have hng : goneB sh l S n k = false := by
  unfold goneB
  rw [if_pos (acB_ptB hk ha), ha, if_pos rfl, hw]
 show (putSh sh k S.st (keysOf (gX l n).ss) (madeOf (S.vs.getD n []) (gX l n).gs (gX l n).ss)).getD c 0 = _
 by_cases hit : wrX (gX l n) c = true ∧ c % sh = k
 ·obtain ⟨hwc, hck⟩ := hit
  have hlt : n < j := (hcond n hn hwc).1 (by rw [hck, wr_write I.f hn hk, if_pos ⟨rfl, rfl⟩])
  have hbehind : ∀ m, n < m → m < l.length → wrX (gX l m) c = true → at2 S.wr m (c % sh) = false := fun m hnm hml hwm =>
   none_behind hsh I h8 hnm hml (by simp [hasX, hwc]) hwm (by rw [hck]; exact hng)
  have hold : S.st.getD c 0 = (serAt s0 l n).getD c 0 := by
   refine I.store c n h8 (by omega) fun m hml hwm => ?_
   constructor
   ·intro hwr
    apply Classical.byContradiction
    intro hle
    by_cases em : m = n
    ·subst em; rw [hck, hw] at hwr; cases hwr
    ·rw [hbehind m (by omega) hml hwm] at hwr; cases hwr
   ·intro hlt'
    have := (hcond m hml hwm).2 (by omega)
    rw [wr_write I.f hn hk, if_neg (fun h => by omega)] at this
    exact this
  have hskip : (serAt s0 l j).getD c 0 = (serAt s0 l (n + 1)).getD c 0 := by
   refine serAt_skip hg s0 c (n + 1) j (by omega) hj fun m h1 h2 => ?_
   cases e : wrX (gX l m) c with
   | false => rfl
   | true =>
    have := (hcond m (by omega) e).2 h2
    rw [wr_write I.f hn hk, if_neg (fun h => by omega), hbehind m (by omega) (by omega) e] at this
    cases this
  rw [hskip, serAt_step s0 l n hn, vals_all hsh hg I hn hr]
  exact putSh_at sh k c hck _ _ _ _ (by rw [I.f.st]; unfold serAt; rw [serEnd_len, h0]) hold
 ·have hfar : (putSh sh k S.st (keysOf (gX l n).ss) (madeOf (S.vs.getD n []) (gX l n).gs (gX l n).ss)).getD c 0 = S.st.getD c 0 :=
   putSh_far sh k c _ _ _ fun key hkey e1 e2 => hit ⟨(wrX_key (hg n hn)).2 ⟨key, hkey, e2⟩, by rw [← e2]; exact e1⟩
  rw [hfar]
  refine I.store c j h8 hj fun m hml hwm => ?_
  rw [← hcond m hml hwm, wr_write I.f hn hk]
  by_cases e : n = m ∧ k = c % sh
  ·exact absurd ⟨by rw [e.1]; exact hwm, e.2.symm⟩ hit
  ·rw [if_neg e]
theorem inv_do {sh : Nat} {l : List TxA} {s0 : List Int} {S : SA} (hsh : 0 < sh) (h0 : s0.length = 8) (hg : ∀ n, n < l.length → Good (gX l n)) (I : Inv sh l s0 S) {kind n k : Nat} (hkd : kind = 1 ∨ kind = 2) (hn : n < l.length) (hk : k < sh) (hm : mayB sh l S kind n k = true) : Inv sh l s0 (doX sh l S kind n k) := by
 rcases hkd with rfl | rfl
 ·exact inv_read hsh hg I hn hk hm
 ·exact inv_write hsh h0 hg I hn hk hm
theorem inv_over {sh : Nat} {l : List TxA} {s0 : List Int} {S : SA} (hsh : 0 < sh) (h0 : s0.length = 8) (hg : ∀ n, n < l.length → Good (gX l n)) (I : Inv sh l s0 S) (h : overB sh l S = true) : S.st = serEnd s0 l ∧ ∀ n, n < l.length → S.vs.getD n [] = rdOf (serAt s0 l n) (gX l n).rs := by
 constructor
 ·have h8 := I.f.st
  have h8' : (serEnd s0 l).length = 8 := by rw [serEnd_len, h0]
  apply List.ext_getElem?
  intro c
  by_cases hc : c < 8
  ·have := I.store c l.length hc (Nat.le_refl _) fun n hn hw => ⟨fun _ => hn, fun _ => gone_wr hsh hc hw (overB_iff.1 h n _ hn (Nat.mod_lt _ hsh))⟩
   have e : serAt s0 l l.length = serEnd s0 l := by unfold serAt; rw [List.take_length]
   rw [e] at this
   simpa [List.getD, h8, h8', hc] using this
  ·rw [List.getElem?_eq_none (by omega), List.getElem?_eq_none (by omega)]
 ·intro n hn
  exact vals_all hsh hg I hn (allRd_iff.2 fun k hk hp => gone_read I.t hn hk hp (overB_iff.1 h n k hn hk))
def begX (sh : Nat) (l : List TxA) (s : List Int) : SA := ⟨s, l.map fun _ => List.replicate sh false, l.map fun _ => List.replicate sh false, l.map fun x => List.replicate x.rs.length 0⟩
theorem at2_beg (sh : Nat) (l : List TxA) (n k : Nat) : at2 (l.map fun _ => List.replicate sh false) n k = false := by
 unfold at2
 simp only [List.getD, List.getElem?_map]
 cases l[n]? with
 | none => rfl
 | some x => simp [List.getElem?_replicate]; split <;> rfl
theorem inv_beg (sh : Nat) (l : List TxA) (s : List Int) (h8 : s.length = 8) (hg : ∀ n, n < l.length → Good (gX l n)) : Inv sh l s (begX sh l s) := by
 have hr : ∀ n k, at2 (begX sh l s).rd n k = false := at2_beg sh l
 have hw : ∀ n k, at2 (begX sh l s).wr n k = false := at2_beg sh l
 refine ⟨⟨h8, by simp [begX], by simp [begX], by simp [begX], fun n hn => ?_, fun n hn => ?_, fun n hn => ?_⟩, ⟨fun n k _ _ h => ?_, fun n k _ _ h => ?_⟩, fun n k _ _ h => ?_, fun n k _ _ h => ?_, fun c j _ hj h => ?_⟩
 ·simp [begX, List.getD, hn]
 ·simp [begX, List.getD, hn]
 ·simp [begX, gX, List.getD, hn]
 ·rw [hr] at h; cases h
 ·rw [hw] at h; cases h
 ·rw [hr] at h; cases h
 ·rw [hr] at h; cases h
 ·show s.getD c 0 = _
  unfold serAt
  have : ∀ j, j ≤ l.length → (∀ n, n < l.length → wrX (gX l n) c = true → ¬ n < j) → (serEnd s (l.take j)).getD c 0 = s.getD c 0 := by
   intro j
   induction j with
   | zero => intro _ _; rfl
   | succ j ih =>
    intro hj hh
    rw [serEnd_step s l j (by omega)]
    have hno : wrX (gX l j) c = false := by
     cases e : wrX (gX l j) c with
     | false => rfl
     | true => exact absurd (Nat.lt_succ_self j) (hh j (by omega) e)
    unfold aEnd
    rw [putAll_far _ _ _ _ (fun key hk ek => ?_)]
    ·exact ih (by omega) fun n hn hwn hlt => hh n hn hwn (by omega)
    ·rw [(wrX_key (hg j (by omega))).2 ⟨key, hk, ek⟩] at hno; cases hno
  rw [this j hj fun n hn hwn hlt => by
   have := (h n hn hwn).2 hlt
   rw [hw] at this; cases this]
theorem still {sh : Nat} {l : List TxA} {S : SA} (f : Form sh l S) {kx n k ky m j : Nat} (hkx : kx = 1 ∨ kx = 2) (hky : ky = 1 ∨ ky = 2) (hn : n < l.length) (hk : k < sh) (hy : mayB sh l S ky m j = true) (hne : ¬ (kx = ky ∧ n = m ∧ k = j)) : mayB sh l (doX sh l S kx n k) ky m j = true := by
 rcases hkx with rfl | rfl <;> rcases hky with rfl | rfl
 ·obtain ⟨h1, h2, h3⟩ := may_read hy
  refine mayB_of h1 ?_ ?_
  ·show at2 (readX sh l S n k).rd m j = false
   rw [rd_read f hn hk, if_neg (fun e => hne ⟨rfl, e.1, e.2⟩)]; exact h2
  ·have : blkB sh l (readX sh l S n k) m j = false := blkB_false.2 fun a ha hc => gone_up_read f hn hk (blkB_false.1 h3 a ha hc)
   show freeB sh l (readX sh l S n k) 1 m j = true
   simp [freeB, this]
 ·obtain ⟨h1, h2, h3⟩ := may_write hy
  exact mayB_of (kind := 2) h1 h2 (allRd_read f hn hk h3)
 ·obtain ⟨h1, h2, h3⟩ := may_read hy
  refine mayB_of h1 h2 ?_
  have : blkB sh l (writeX sh l S n k) m j = false := blkB_false.2 fun a ha hc => gone_up_write f hn hk (blkB_false.1 h3 a ha hc)
  show freeB sh l (writeX sh l S n k) 1 m j = true
  simp [freeB, this]
 ·obtain ⟨h1, h2, h3⟩ := may_write hy
  refine mayB_of (kind := 2) h1 ?_ h3
  show at2 (writeX sh l S n k).wr m j = false
  rw [wr_write f hn hk, if_neg (fun e => hne ⟨rfl, e.1, e.2⟩)]; exact h2
def pickAt (picks : List Int) (i c : Nat) : Nat := if i < picks.length then (if picks.getD i 0 < 0 then (-(picks.getD i 0 + 1)).toNat % c else (picks.getD i 0).toNat % c) else 0
def step1 (sh : Nat) (l : List TxA) (S : SA) (x : Nat × Nat × Nat) : SA := doX sh l S x.1 x.2.1 x.2.2
def nextX (sh : Nat) (l : List TxA) (picks : List Int) (S : SA) (i : Nat) : SA := step1 sh l S ((canL sh l S).getD (pickAt picks i (canL sh l S).length) (0, 0, 0))
def runX (sh : Nat) (l : List TxA) (picks : List Int) (s : List Int) : Nat → SA
 | 0 => begX sh l s
 | i + 1 => nextX sh l picks (runX sh l picks s i) i
theorem pickAt_lt (picks : List Int) (i c : Nat) (h : 0 < c) : pickAt picks i c < c := by
 unfold pickAt
 split
 ·split <;> exact Nat.mod_lt _ h
 ·exact h
theorem pick_mem {sh : Nat} {l : List TxA} {S : SA} (picks : List Int) (i : Nat) (h : canL sh l S ≠ []) : (canL sh l S).getD (pickAt picks i (canL sh l S).length) (0, 0, 0) ∈ canL sh l S := by
 have hp := pickAt_lt picks i (canL sh l S).length (by cases e : canL sh l S with | nil => exact absurd e h | cons a t => simp)
 simp [List.getD, hp]
theorem run_inv {sh : Nat} {l : List TxA} {s : List Int} (picks : List Int) (hsh : 0 < sh) (h8 : s.length = 8) (hg : ∀ n, n < l.length → Good (gX l n)) : ∀ i, (∀ j, j < i → overB sh l (runX sh l picks s j) = false) → Inv sh l s (runX sh l picks s i) ∧ cnt sh l (runX sh l picks s i) = i
 | 0, _ => by
  refine ⟨inv_beg sh l s h8 hg, ?_⟩
  show cnt sh l (begX sh l s) = 0
  have key : ∀ N, c2 (fun _ _ => false) sh N = 0 := by
   intro N
   have k1 : ∀ J, c1 (fun _ => false) J = 0 := by
    intro J
    induction J with
    | zero => rfl
    | succ J ih => rw [c1, ih]; rfl
   induction N with
   | zero => rfl
   | succ N ih => rw [c2, ih, k1]
  unfold cnt
  rw [c2_congr (at2 (begX sh l s).rd) (fun _ _ => false) sh l.length (fun n j _ _ => at2_beg sh l n j), c2_congr (at2 (begX sh l s).wr) (fun _ _ => false) sh l.length (fun n j _ _ => at2_beg sh l n j), key]
 | i + 1, h => by
  obtain ⟨I, c⟩ := run_inv picks hsh h8 hg i (fun j hj => h j (by omega))
  have hm := pick_mem picks i (some_can (h i (by omega)))
  obtain ⟨h1, h2, h3, h4⟩ := canL_mem.1 hm
  refine ⟨inv_do hsh h8 hg I h1 h2 h3 h4, ?_⟩
  show cnt sh l (nextX sh l picks (runX sh l picks s i) i) = i + 1
  unfold nextX step1
  rw [cnt_do h1 I.f h2 h3 h4, c]
theorem run_over {sh : Nat} {l : List TxA} {s : List Int} (picks : List Int) (hsh : 0 < sh) (h8 : s.length = 8) (hg : ∀ n, n < l.length → Good (gX l n)) : (∀ j, j < cntAll sh l → overB sh l (runX sh l picks s j) = false) ∧ overB sh l (runX sh l picks s (cntAll sh l)) = true := by
 have hex : ∃ i, overB sh l (runX sh l picks s i) = true := by
  apply Classical.byContradiction
  intro hc
  have hall : ∀ j, overB sh l (runX sh l picks s j) = false := fun j => by
   cases e : overB sh l (runX sh l picks s j) with
   | false => rfl
   | true => exact absurd ⟨j, e⟩ hc
  have h1 := (run_inv picks hsh h8 hg (2 * (l.length * sh) + 1) (fun j _ => hall j)).2
  have h2 := cnt_le sh l (runX sh l picks s (2 * (l.length * sh) + 1))
  omega
 obtain ⟨i0, hi0⟩ := hex
 obtain ⟨i, hi, hmin⟩ := least (P := fun i => overB sh l (runX sh l picks s i) = true) i0 hi0
 have hno : ∀ j, j < i → overB sh l (runX sh l picks s j) = false := fun j hj => by
  cases e : overB sh l (runX sh l picks s j) with
  | false => rfl
  | true => exact absurd e (hmin j hj)
 obtain ⟨I, c⟩ := run_inv picks hsh h8 hg i hno
 have hi' : overB sh l (runX sh l picks s i) = true := hi
 have e : i = cntAll sh l := by rw [← c]; exact cnt_over I.t hi'
 subst e
 exact ⟨hno, hi'⟩
theorem cntAll_le (sh : Nat) (l : List TxA) : cntAll sh l ≤ 2 * (l.length * sh) := by
 have h1 := c2_le (fun n k => ptB sh (gX l n) k) sh l.length
 have h2 := c2_le (fun n k => acB sh (gX l n) k) sh l.length
 unfold cntAll; omega
def endX (sh : Nat) (l : List TxA) (picks : List Int) (s : List Int) : SA := runX sh l picks s (cntAll sh l)
theorem res_ser (s : List Int) (l : List TxA) : ∀ m, m ≤ l.length → (List.range m).map (fun n => (allG (rdOf (serAt s l n) (gX l n).rs) (gX l n).gs, rdOf (serAt s l n) (gX l n).rs)) = serRes s (l.take m)
 | 0, _ => by simp [serRes]
 | m + 1, h => by
  rw [List.range_succ, List.map_append, res_ser s l m (by omega), serRes_step s l m (by omega)]
  rfl
theorem end_same {sh : Nat} {l : List TxA} {s : List Int} (picks : List Int) (hsh : 0 < sh) (h8 : s.length = 8) (hg : ∀ n, n < l.length → Good (gX l n)) :
  (endX sh l picks s).st = serEnd s l ∧ (List.range l.length).map (fun n => (allG ((endX sh l picks s).vs.getD n []) (gX l n).gs, (endX sh l picks s).vs.getD n [])) = serRes s l ∧ Inv sh l s (endX sh l picks s) ∧ overB sh l (endX sh l picks s) = true := by
 obtain ⟨h1, h2⟩ := run_over picks hsh h8 hg
 obtain ⟨I, _⟩ := run_inv picks hsh h8 hg _ h1
 obtain ⟨e1, e2⟩ := inv_over hsh h8 hg I h2
 refine ⟨e1, ?_, I, h2⟩
 have := res_ser s l l.length (Nat.le_refl _)
 rw [List.take_length] at this
 rw [← this]
 apply List.map_congr_left
 intro n hn
 have hn' := List.mem_range.1 hn
 show (allG ((runX sh l picks s (cntAll sh l)).vs.getD n []) (gX l n).gs, (runX sh l picks s (cntAll sh l)).vs.getD n []) = _
 rw [e2 n hn']
end Go.Proofs.YtcgpkonfneofdaaGreat
namespace Go.Proofs.YtcgpkonfneofdaaGreat
open Go.ChangeShapes Go.WideShapes Go.ChangeAt Go.RowKit Go.Deep
section
variable {H : Type} {enc : TypeId × Value → H} {w : World} {base : Nat} {held : Bool}
theorem open_p {b0 : Nat} {v : Value} {d : DataW H} {p : List MemPlace} (hv : Value.okWide Tryz.prog w .any b0 24 v) (h : DataW.Trod enc Tryz.prog w base (fun _ => true) held 24 v d p) :
  ∃ (m : Int) (la : Option Addr) (l : List TxA) (lc : Nat), v = .agg #[.int .i64 m, .slice la l.length lc] ∧ IsTxs w la l := by
 obtain ⟨c0, c1, y0, y1, m, rfl, _, _, h0, h1⟩ := Joins.open_agg2 Tryz.underlying24 (by kernel_rfl) (by kernel_rfl) hv h
 obtain ⟨k, rfl⟩ := int_of h0
 obtain ⟨la, l, lc, rfl, _, _, hl, _⟩ := open_txs h1
 exact ⟨k, la, l, lc, rfl, hl⟩
theorem open_n {b0 : Nat} {v : Value} {d : DataW H} {p : List MemPlace} (hv : Value.okWide Tryz.prog w .any b0 3 v) (h : DataW.Trod enc Tryz.prog w base (fun _ => true) held 3 v d p) :
  ∃ n : Int, v = .int .i64 n ∧ (Lit.int .i64 n).wf = true := by
 obtain ⟨n, rfl, _, _, hw⟩ := open_int Tryz.underlying3 hv h
 exact ⟨n, rfl, hw⟩
end
end Go.Proofs.YtcgpkonfneofdaaGreat
