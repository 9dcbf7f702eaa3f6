/-
  store.valuesOf: what lies at some keys of a store; lists of transactions that came in, opened.
  Conditions: those that each theorem states.
-/
import Derived.Test.YtcgpkonfneofdaaStoreB
import Derived.WalkKit
import Derived.WalkSpells
import Derived.WalkLawsBesides
import Derived.Defers
import Derived.ProofKit
import Derived.OpenShut
import Derived.ChangeOld
import Derived.Deep.Slices
import Derived.Deep.Strs
import Derived.Deep.RegionHeld
import Derived.Deep.RegionHeld3
import Derived.BigQuiet
import Derived.Lib.SmallJoins
namespace Go.Proofs.Ytcgpkonfneofdaa
open Go.ChangeShapes Go.WideShapes Go.ChangeAt Go.RowKit Go.Deep

section
variable {H : Type} {enc : TypeId × Value → H} {w : World} {base : Nat} {held : Bool}

set_option maxRecDepth 100000 in
theorem tx_of {n : Nat} {c0 c1 c2 : Value} {y : DataW H × List MemPlace} (h : DataW.trod enc Try.prog w base (fun _ => true) held n 38 [c0, c1, c2] = some y) :
    ∃ x : TxA, c0 = .slice x.ra x.rs.length x.rc ∧ c1 = .slice x.ga x.gs.length x.gc ∧ c2 = .slice x.sa x.ss.length x.sc ∧ IsX w x := by
  obtain ⟨y0, y1, y2, m, _, _, h0, h1, h2⟩ := trod_struct3 Try.underlying38 h
  have k22 : Try.prog.cellsOf 22 = 1 := by kernel_rfl
  have k23 : Try.prog.cellsOf 35 = 1 := by kernel_rfl
  have k24 : Try.prog.cellsOf 36 = 1 := by kernel_rfl
  simp only [k22, k23, k24] at h0 h1 h2
  obtain ⟨ra, rs, rc, rfl, lr, ir, rn⟩ := open_rs (v := c0) (by simpa using h0)
  obtain ⟨ga, gs, gc, rfl, lg, ig, gn⟩ := open_gs (v := c1) (by simpa using h1)
  obtain ⟨sa, ss, sc, rfl, ls, is, sn⟩ := open_ss (v := c2) (by simpa using h2)
  exact ⟨⟨ra, ga, sa, rc, gc, sc, rs, gs, ss⟩, rfl, rfl, rfl, ⟨⟨ir, ig, is, lr, lg, ls⟩, rn, gn, sn⟩⟩

set_option maxRecDepth 100000 in
theorem open_txs {n : Nat} {v : Value} {y : DataW H × List MemPlace} (h : DataW.trod enc Try.prog w base (fun _ => true) held n 23 [v] = some y) : ∃ (a : Option Addr) (l : List TxA) (cap : Nat), v = .slice a l.length cap ∧ l.length ≤ maxLen ∧ l.length ≤ cap ∧ IsTxs w a l ∧ (a = none → cap = 0) := by
  have k26 : Try.prog.cellsOf 38 = 3 := by kernel_rfl
  rcases open_slice Try.underlying23 h with ⟨hcs, _⟩ | ⟨a, len, cap, m, n', D, Pl, hcs, _, hl, hm, hmm, _, hx⟩
  · simp at hcs
    exact ⟨none, [], 0, by simpa using hcs, by simp, by simp, fun i hi => absurd hi (by simp), fun _ => rfl⟩
  · simp at hcs
    have hlm : len ≤ m := by rw [hmm]; split <;> omega
    rw [k26] at hx
    have : Inhabited TxA := ⟨x0⟩
    obtain ⟨f, hf⟩ := choose_lt (α := TxA) (p := fun i x => w.cell? ((a.add (i * 3)).add 0) = some (.slice x.ra x.rs.length x.rc) ∧ w.cell? ((a.add (i * 3)).add 1) = some (.slice x.ga x.gs.length x.gc) ∧ w.cell? ((a.add (i * 3)).add 2) = some (.slice x.sa x.ss.length x.sc) ∧ IsX w x) (n := m) (fun i hi => by
      obtain ⟨cs', h1, h2⟩ := hx i hi
      obtain ⟨_, hlen, hc⟩ := World.cells?_some h1
      match cs', hlen with
      | [c0, c1, c2], _ =>
        obtain ⟨x, rfl, rfl, rfl, hX⟩ := tx_of h2
        exact ⟨x, hc 0 (by omega), hc 1 (by omega), hc 2 (by omega), hX⟩)
    obtain ⟨b, off, spot⟩ := a
    refine ⟨some ⟨b, off, spot⟩, (List.range len).map f, cap, by simpa using hcs, by simp; omega, by simp; omega, fun i hi => ?_, fun h => by cases h⟩
    have hi' : i < len := by simpa using hi
    have hsp : spot = none := by
      have := World.cell?_spot (hf 0 (by omega)).1
      simpa [Addr.add] using this
    subst hsp
    obtain ⟨e0, e1, e2, eX⟩ := hf i (by omega)
    rw [add_add] at e0 e1 e2
    have eg : ((List.range len).map f).getD i x0 = f i := by simp [List.getD, hi']
    rw [eg]
    exact ⟨b, off, rfl, World.block_lt_of_cell? w _ e0, e0, e1, e2, eX⟩

set_option maxRecDepth 100000 in
theorem open_l {b0 : Nat} {v : Value} {d : DataW H} {p : List MemPlace} (hv : Value.okWide Try.prog w .any b0 23 v) (h : DataW.Trod enc Try.prog w base (fun _ => true) held 23 v d p) :
    ∃ (a : Option Addr) (l : List TxA) (cap : Nat), v = .slice a l.length cap ∧ l.length ≤ maxLen ∧ l.length ≤ cap ∧ IsTxs w a l ∧ (a = none → cap = 0) := by
  obtain ⟨za, zl, zc, rfl⟩ := okWide_slice Try.underlying23 hv
  obtain ⟨fuel, hf⟩ := h
  exact open_txs (by simpa [Value.cells] using hf)

set_option maxRecDepth 100000 in
theorem open_zs {b0 : Nat} {v : Value} {d : DataW H} {p : List MemPlace} (hv : Value.okWide Try.prog w .any b0 22 v) (h : DataW.Trod enc Try.prog w base (fun _ => true) held 22 v d p) :
    ∃ (a : Option Addr) (zs : List Int) (cap : Nat), v = .slice a zs.length cap ∧ zs.length ≤ maxLen ∧ IsInts w a zs ∧ (a = none → cap = 0) := by
  obtain ⟨za, zl, zc, rfl⟩ := okWide_slice Try.underlying22 hv
  obtain ⟨fuel, hf⟩ := h
  exact open_rs (by simpa [Value.cells] using hf)
end

set_option maxRecDepth 100000 in
theorem rangeE_in : ∀ (l : List Int), rangeE l = 0 → ∀ z ∈ l, 0 ≤ z ∧ z < 8
  | [], _, z, h => by cases h
  | y :: t, h, z, hz => by
    unfold rangeE at h
    by_cases c : y < 0 ∨ 8 ≤ y
    · rw [if_pos c] at h; omega
    · rw [if_neg c] at h
      rcases List.mem_cons.1 hz with rfl | hz
      · omega
      · exact rangeE_in t h z hz
set_option maxRecDepth 100000 in
theorem rangeE_get (l : List Int) (h : rangeE l = 0) (k : Nat) (hk : k < l.length) : 0 ≤ l.getD k 0 ∧ l.getD k 0 < 8 := by
  refine rangeE_in l h _ ?_
  simp [List.getD, hk]
set_option maxRecDepth 100000 in
theorem chk_ranges {rs : List Int} {gs : List Gd} {ss : List St} (h : chkTx rs gs ss = 0) : rangeE rs = 0 ∧ rangeE (keysOf ss) = 0 := by
  have h' := firstNZ_zero _ (chk_parts h).2.1
  exact ⟨by simpa using h' 0, by simpa using h' 1⟩

set_option maxRecDepth 100000 in
theorem at_of_owns2 {w : World} {base : Nat} {v : Value} {n : Nat} {zs : List Int} (h : w.ownsRow base 3 1 v n (zs.map (Value.int .i64))) : ∃ a cap, v = .slice a zs.length cap ∧ IsAt base w.heap.size w a zs ∧ (a = none → cap = 0) := by
  have hn : zs.length = n := by have := h.1; simpa using this
  rcases h.2 with ⟨rfl, h0⟩ | ⟨g, cap, cur, rfl, hb, hg, hnc, hcm, hcs, htake⟩
  · refine ⟨none, 0, by rw [hn, h0], fun i hi => ?_, fun _ => rfl⟩
    omega
  · refine ⟨some ⟨g, 0, none⟩, cap, by rw [hn], fun i hi => ⟨g, 0, rfl, hb, (Array.getElem?_eq_some_iff.1 hg).1, ?_⟩, fun h => by cases h⟩
    have hc := h.cellAt i (by omega)
    rw [Nat.zero_add, hc]
    simp [List.getD, hi]

set_option maxRecDepth 100000 in
theorem take_rd (s rs : List Int) (k : Nat) (h : k < rs.length) : (rdOf s rs).take (k + 1) = (rdOf s rs).take k ++ [getAt s (rs.getD k 0)] := by
  rw [List.take_succ_eq_append_getElem (by simpa [rdOf] using h)]
  simp [rdOf, List.getD, h]

set_option maxRecDepth 100000 in
set_option maxHeartbeats 1000000 in
theorem valuesOf_own (s rs : List Int) (sa ra : Option Addr) (sc rc : Nat) (w : World) (hs : IsInts w sa s) (hr : IsInts w ra rs) (h8 : s.length = 8) (h4 : rs.length ≤ 4) (hE : rangeE rs = 0) :
    Calls Try.prog 95 #[.slice sa s.length sc, .slice ra rs.length rc] w fun e w' => ∃ v, e = .returned v ∧ w'.ownsRow w.heap.size 3 1 v rs.length ((rdOf s rs).map (Value.int .i64)) ∧ Below w.heap.size w w' := by
  obtain ⟨i0, hi, hz0, hz1, hz2⟩ := info_parts Try.info3
  have hkl : Hid ((rdOf s rs).length = rs.length) := rdOf_len s rs
  have H8 : Hid (s.length = 8) := h8
  have HE : Hid (rangeE rs = 0) := hE
  clear h8 hE
  go_enter Try.func95, Try.ntmps95
  go_wp2
  go_loopw [5, 7, 10] (fun v _ i wr => ∃ k : Nat, k ≤ rs.length ∧ i = .int .i64 k ∧ wr.ownsRow w.heap.size 3 1 v k (((rdOf s rs).take k).map (Value.int .i64)) ∧ Below w.heap.size w wr) (fun _ _ i _ => rs.length - (intOf i).toNat)
  case atStart => exact ⟨0, Nat.zero_le _, rfl, World.ownsRow_nil _ _ _ _, Below.refl _ _⟩
  case round =>
    obtain ⟨k, hk, rfl, hown, hnx⟩ := hrel
    have hsz : w.heap.size ≤ wr.heap.size := hnx.size
    by_cases hlt : k < rs.length
    · obtain ⟨b, off, rfl, hb, c0⟩ := hr k hlt
      obtain ⟨hz, hz'⟩ := rangeE_get rs HE.out k hlt
      have HT : Hid ((rdOf s rs).take (k + 1) = (rdOf s rs).take k ++ [getAt s (rs.getD k 0)]) := take_rd s rs k hlt
      generalize rs.getD k 0 = z at *
      obtain ⟨m, rfl⟩ := Int.eq_ofNat_of_zero_le hz
      have hms : m < s.length := by have := H8.out; omega
      obtain ⟨b', off', rfl, hb', c1⟩ := hs m hms
      have d0 := ext_cell hnx c0
      have d1 := ext_cell hnx c1
      have hg : getAt s (m : Int) = s.getD m 0 := rfl
      rw [hg] at HT
      generalize s.getD m 0 = y at *
      clear c0 c1 hs hr hg hz hz'
      go_wp2_with (first
        | (at_builtin; refine wpList_append_own _ rfl _ _ 22 rfl w.heap.size 3 i0 (.int .i64 0) 1 8 Try.underlying22 hi hz0 hz1 hz2 rfl (by decide) _ _ _ rfl (hown.alloc _) ⟨wr.heap.size, 0, none⟩ 1 1 [.int .i64 y] rfl rfl (news_at _ _ _ (by simp)) (ints_oneCell .i64 [y]) (by unfold maxLen; omega) (by omega) (by simp; omega) ?_; intro v' w1 hown' hgrow _)
        | go_in)
      have R : w1.ownsRow w.heap.size 3 1 v' (k + 1) (((rdOf s rs).take (k + 1)).map (Value.int .i64)) := by rw [HT.out, List.map_append]; exact hown'
      have RB := ((hnx.alloc (by omega) _).grown hgrow (by simp; omega) (fun j hj => (hown.lt j hj).1))
      clear hown' hgrow hown hnx d0 d1
      go_wp2
      go_roundw
      case rel => exact ⟨k + 1, by omega, by go_num, R, RB⟩
      case measure => simp [intOf]; omega
    · have R : wr.ownsRow w.heap.size 3 1 u5 rs.length ((rdOf s rs).map (Value.int .i64)) := by
        have hkk : k = rs.length := by omega
        rw [hkk, List.take_of_length_le (by rw [hkl.out]; exact Nat.le_refl _)] at hown
        exact hown
      clear hown hs hr
      go_wp2
      go_ret
      exact ⟨_, rfl, R, hnx⟩

set_option maxRecDepth 100000 in
theorem valuesOf_any (s rs : List Int) (sa ra : Option Addr) (sc rc : Nat) (w : World) (hs : IsInts w sa s) (hr : IsInts w ra rs) (h8 : s.length = 8) (h4 : rs.length ≤ 4) (hE : rangeE rs = 0) :
    Calls Try.prog 95 #[.slice sa s.length sc, .slice ra rs.length rc] w fun e w' => ∃ a cap, e = .returned (.slice a (rdOf s rs).length cap) ∧ IsAt w.heap.size w'.heap.size w' a (rdOf s rs) ∧ (a = none → cap = 0) ∧ Below w.heap.size w w' :=
  (valuesOf_own s rs sa ra sc rc w hs hr h8 h4 hE).mono fun e w' ⟨v, he, ho, hb⟩ => by
    obtain ⟨a, cap, rfl, hz, hn⟩ := at_of_owns2 ho
    exact ⟨a, cap, he, hz, hn, hb⟩
end Go.Proofs.Ytcgpkonfneofdaa
