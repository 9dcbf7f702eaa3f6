/-
  store.Apply; and the document's own apply, ApplyOf and SerialOf.
  Conditions: what they are handed can be read.
-/
import Derived.Test.YtfogphljilgogaaStoreG
import Derived.WalkKit
import Derived.WalkSpells
import Derived.WalkLawsBesides
import Derived.Defers
import Derived.Recover
import Derived.ProofKit
import Derived.Deep.RegionHeld
import Derived.Deep.RegionHeld3
import Derived.Deep.DeepCutAuto
import Derived.BigQuiet
import Derived.Laws.AppendOwnNone
import Derived.Deep.RegionLaw
import Derived.OpenShut
import Derived.ChangeOld
import Derived.Deep.Slices
import Derived.Deep.Strs
import Derived.Lib.SmallJoins
namespace Go.Proofs.Ytfogphljilgogaa
open Go.RowKit

theorem isTxs_one (w : World) (x : TxA) (n : Nat) (hn : n = w.heap.size) (hx : IsX w x) : IsTxs (w.alloc (.cells #[.slice x.ra x.rs.length x.rc, .slice x.ga x.gs.length x.gc, .slice x.sa x.ss.length x.sc] 26)) (some ⟨n, 0, none⟩) [x] := by
  subst hn
  intro i hi
  have hi0 : i = 0 := by simpa using hi
  subst hi0
  exact ⟨w.heap.size, 0, rfl, by simp, by simp, by simp, by simp, hx.below (grow_alloc (Below.refl _ _) _)⟩

/-- What Apply tells. -/
def apE (s : List Int) (x : TxA) : Int := serE s [x]
def apEnd (s : List Int) (x : TxA) : List Int := sEnd s [x]
def apD (s : List Int) (x : TxA) : Bool := if serE s [x] = 0 then aDone s x else false
def apV (s : List Int) (x : TxA) : List Int := if serE s [x] = 0 then aVals s x else []

variable (sa : Option Addr) (sc : Nat) (s : List Int)

set_option maxRecDepth 100000 in
set_option maxHeartbeats 1000000 in
theorem storeApply_bad (ra ga ta : Option Addr) (rc gc tc : Nat) (rs : List Int) (gs : List Gd) (ss : List St) (w : World) (hs : IsInts w sa s) (hx : IsX w ⟨ra, ga, ta, rc, gc, tc, rs, gs, ss⟩) (hE : ¬ serE s [⟨ra, ga, ta, rc, gc, tc, rs, gs, ss⟩] = 0) :
    Calls Try.prog 11 #[.slice sa s.length sc, .agg #[.slice ra rs.length rc, .slice ga gs.length gc, .slice ta ss.length tc]] w fun e w' => e = .returned (.tuple #[.slice none 0 0, .agg #[.bool false, .slice none 0 0], .int .i64 (serE s [⟨ra, ga, ta, rc, gc, tc, rs, gs, ss⟩])]) ∧ Below w.heap.size w w' := by
  have H1 : Hid (sEnd s [⟨ra, ga, ta, rc, gc, tc, rs, gs, ss⟩] = []) := if_neg hE
  have H2 : Hid (sRes s [⟨ra, ga, ta, rc, gc, tc, rs, gs, ss⟩] = []) := if_neg hE
  have hb' : (serE s [⟨ra, ga, ta, rc, gc, tc, rs, gs, ss⟩] != 0) = true := by simpa using hE
  have HX : Hid (IsX w ⟨ra, ga, ta, rc, gc, tc, rs, gs, ss⟩) := hx
  have HS : Hid (IsInts w sa s) := hs
  clear hs hx hE
  go_enter Try.func11, Try.ntmps11
  go_wp2_with fail
  have U : Below w.heap.size w ((w.alloc (.cells #[.slice ra rs.length rc, .slice ga gs.length gc, .slice ta ss.length tc] 26)).alloc (.cells #[.bool false, .slice none 0 0] 28)) := grow_alloc (grow_alloc (Below.refl _ _) _) _
  refine (serial_any sa _ sc 1 s [⟨ra, ga, ta, rc, gc, tc, rs, gs, ss⟩] _ (HS.out.below (grow_alloc U _)) (isTxs_one _ _ _ (by simp) (HX.out.below U))).mono ?_
  rintro e w1 ⟨ea, ec, xa, xc, rfl, hso, hb⟩
  rw [H1.out, H2.out]
  have c0 : w1.cell? ⟨w.heap.size + 1, 0, none⟩ = some (.bool false) := ext_cell hb (by rw [World.cell?_alloc_lt _ _ _ (by simp)]; simp)
  have c1 : w1.cell? ⟨w.heap.size + 1, 1, none⟩ = some (.slice none 0 0) := ext_cell hb (by rw [World.cell?_alloc_lt _ _ _ (by simp)]; simp)
  have cf : ∀ j, w1.frozen? ⟨w.heap.size + 1, j, none⟩ = false := fun j => (hb.frozen (p := ⟨w.heap.size + 1, j, none⟩) (by simp)).trans (((grow_alloc (Below.refl _ _) _).frozen (p := ⟨w.heap.size + 1, j, none⟩) (by simp)).trans (by simp))
  have B1 : Hid (Below w.heap.size w w1) := grow_trans (grow_alloc U _) hb
  clear hso hb U
  go_wp2
  refine bodyPost_ret (v := .tuple #[.slice none 0 0, .agg #[.bool false, .slice none 0 0],   .int .i64 (serE s [⟨ra, ga, ta, rc, gc, tc, rs, gs, ss⟩])]) (by simp [results, Try.results11, go_sem, c0, c1]) rfl ⟨rfl, ?_⟩
  exact grow_set (grow_set B1.out (by simp) _) (by simp) _

set_option maxRecDepth 100000 in
set_option maxHeartbeats 1000000 in
theorem storeApply_ok (ra ga ta : Option Addr) (rc gc tc : Nat) (rs : List Int) (gs : List Gd) (ss : List St) (w : World) (hs : IsInts w sa s) (hx : IsX w ⟨ra, ga, ta, rc, gc, tc, rs, gs, ss⟩) (hE : serE s [⟨ra, ga, ta, rc, gc, tc, rs, gs, ss⟩] = 0) :
    Calls Try.prog 11 #[.slice sa s.length sc, .agg #[.slice ra rs.length rc, .slice ga gs.length gc, .slice ta ss.length tc]] w fun e w' => ∃ ea ec va vc, e = .returned (.tuple #[.slice ea (aEnd s ⟨ra, ga, ta, rc, gc, tc, rs, gs, ss⟩).length ec, .agg #[.bool (aDone s ⟨ra, ga, ta, rc, gc, tc, rs, gs, ss⟩), .slice va (aVals s ⟨ra, ga, ta, rc, gc, tc, rs, gs, ss⟩).length vc], .int .i64 0]) ∧ IsInts w' ea (aEnd s ⟨ra, ga, ta, rc, gc, tc, rs, gs, ss⟩) ∧ IsInts w' va (aVals s ⟨ra, ga, ta, rc, gc, tc, rs, gs, ss⟩) ∧ Below w.heap.size w w' := by
  have H1 : Hid (sEnd s [⟨ra, ga, ta, rc, gc, tc, rs, gs, ss⟩] = aEnd s ⟨ra, ga, ta, rc, gc, tc, rs, gs, ss⟩) := if_pos hE
  have H2 : Hid (sRes s [⟨ra, ga, ta, rc, gc, tc, rs, gs, ss⟩] = [(aDone s ⟨ra, ga, ta, rc, gc, tc, rs, gs, ss⟩, aVals s ⟨ra, ga, ta, rc, gc, tc, rs, gs, ss⟩)]) := if_pos hE
  have H3 : Hid (serE s [⟨ra, ga, ta, rc, gc, tc, rs, gs, ss⟩] = 0) := hE
  have HX : Hid (IsX w ⟨ra, ga, ta, rc, gc, tc, rs, gs, ss⟩) := hx
  have HS : Hid (IsInts w sa s) := hs
  clear hs hx hE
  generalize aEnd s ⟨ra, ga, ta, rc, gc, tc, rs, gs, ss⟩ = E1 at *
  generalize aDone s ⟨ra, ga, ta, rc, gc, tc, rs, gs, ss⟩ = D at *
  generalize aVals s ⟨ra, ga, ta, rc, gc, tc, rs, gs, ss⟩ = Z at *
  go_enter Try.func11, Try.ntmps11
  go_wp2_with fail
  have U : Below w.heap.size w ((w.alloc (.cells #[.slice ra rs.length rc, .slice ga gs.length gc, .slice ta ss.length tc] 26)).alloc (.cells #[.bool false, .slice none 0 0] 28)) := grow_alloc (grow_alloc (Below.refl _ _) _) _
  refine (serial_any sa _ sc 1 s [⟨ra, ga, ta, rc, gc, tc, rs, gs, ss⟩] _ (HS.out.below (grow_alloc U _)) (isTxs_one _ _ _ (by simp) (HX.out.below U))).mono ?_
  rintro e w1 ⟨ea, ec, xa, xc, rfl, hso, hb⟩
  rw [H1.out, H2.out, H3.out]
  rw [H1.out, H2.out] at hso
  have hso' : SO (w.heap.size + 3) w1 ea ec xa xc E1 [(D, Z)] := hso.mono (by simp)
  have B1 : Hid (Below w.heap.size w w1) := grow_trans (grow_alloc U _) hb
  have c0 : w1.cell? ⟨w.heap.size + 1, 0, none⟩ = some (.bool false) := ext_cell hb (by rw [World.cell?_alloc_lt _ _ _ (by simp)]; simp)
  have c1 : w1.cell? ⟨w.heap.size + 1, 1, none⟩ = some (.slice none 0 0) := ext_cell hb (by rw [World.cell?_alloc_lt _ _ _ (by simp)]; simp)
  have cf : ∀ j, w1.frozen? ⟨w.heap.size + 1, j, none⟩ = false := fun j => (hb.frozen (p := ⟨w.heap.size + 1, j, none⟩) (by simp)).trans (((grow_alloc (Below.refl _ _) _).frozen (p := ⟨w.heap.size + 1, j, none⟩) (by simp)).trans (by simp))
  obtain ⟨he1, _, rl, hres, htl⟩ := hso'
  obtain ⟨r, rfl, hd⟩ : ∃ r, rl = [r] ∧ r.told = (D, Z) := by
    match rl, htl with
    | [r], h => exact ⟨r, rfl, by simpa using h⟩
  obtain ⟨va, vc, d, vs⟩ := r
  simp only [RsA.told, Prod.mk.injEq] at hd
  obtain ⟨hd1, hd2⟩ := hd
  subst hd1 hd2
  obtain ⟨g', cap', hv, hg1, hg2⟩ := hres.1.form (by simp)
  injection hv with hv1 hv2 hv3
  subst hv1
  have r0 : w1.cell? ⟨g', 0, none⟩ = some (.bool d) := by
    have := hres.1.cells (g := g') rfl 0 (.bool d) rfl
    simpa [add_none] using this
  have r1 : w1.cell? ⟨g', 1, none⟩ = some (.slice va vs.length vc) := by
    have := hres.1.cells (g := g') rfl 1 (.slice va vs.length vc) rfl
    simpa [add_none] using this
  have hva : Hid (IsAt (w.heap.size + 3) w1.heap.size w1 va vs) := (hres.2 _ (List.mem_singleton_self _)).1
  have hea : Hid (IsAt (w.heap.size + 3) w1.heap.size w1 ea E1) := he1
  have hne : g' ≠ w.heap.size + 1 := by omega
  clear hso hb U hres htl he1
  go_wp2
  go_region
  all_goals (
    go_wp2
    refine bodyPost_ret (v := .tuple #[.slice ea E1.length ec, .agg #[.bool d, .slice va vs.length vc], .int .i64 0]) (by simp [results, Try.results11, go_sem, c0, c1]) rfl ⟨ea, ec, va, vc, rfl, ?_, ?_, ?_⟩
    · have h1 := (hea.out.set ⟨w.heap.size + 1, 0, none⟩ (.bool d) (.inl (by simp))).set ⟨w.heap.size + 1, 1, none⟩ (.slice va vs.length vc) (.inl (by simp))
      exact IsAt.ints h1 (by simp)
    · have h1 := (hva.out.set ⟨w.heap.size + 1, 0, none⟩ (.bool d) (.inl (by simp))).set ⟨w.heap.size + 1, 1, none⟩ (.slice va vs.length vc) (.inl (by simp))
      exact IsAt.ints h1 (by simp)
    · exact grow_set (grow_set (grow_drew B1.out) (by simp) _) (by simp) _)
end Go.Proofs.Ytfogphljilgogaa

namespace Go.Proofs.Ytfogphljilgogaa
open Go.RowKit

theorem grownBy_drew2 {w w' : World} {row : Option Nat} (h : w.grownBy w' row) : w.grownBy w'.drew row := ⟨h.os, h.tape, h.output, h.size, h.block⟩

variable (sa : Option Addr) (sc : Nat) (s : List Int) (ra ga ta : Option Addr) (rc gc tc : Nat) (rs : List Int) (gs : List Gd) (ss : List St)

theorem news_ints {w : World} {s : List Int} {ad : Addr} (hs : IsInts w (some ad) s) : ∀ j u, (s.map (Value.int .i64))[j]? = some u → w.cell? (ad.add j) = some u := by
  intro j u hj
  have hlt : j < s.length := by
    have := (List.getElem?_eq_some_iff.1 hj).1
    simpa using this
  obtain ⟨b, off, ha, hb, hc⟩ := hs j hlt
  injection ha with ha
  subst ha
  rw [add_none, hc]
  simp [hlt] at hj
  simp [List.getD, hlt, hj]

set_option maxRecDepth 100000 in
set_option maxHeartbeats 4000000 in
theorem applyR_any (w : World) (hs : IsInts w sa s) (h8 : s.length = 8) (ht : IsTx w ra ga ta rs gs ss) (hE : chkTx rs gs ss = 0) :
    Calls Try.prog 39 #[.slice sa s.length sc, .agg #[.slice ra rs.length rc, .slice ga gs.length gc, .slice ta ss.length tc]] w fun e w' => ∃ a cap va vc, e = .returned (.tuple #[.slice a s.length cap, .agg #[.bool (allG (rdOf s rs) gs), .slice va (rdOf s rs).length vc]]) ∧ IsAt w.heap.size w'.heap.size w' a (putAll s (keysOf ss) (madeOf (rdOf s rs) gs ss)) ∧ (a = none → cap = 0) ∧ IsAt w.heap.size w'.heap.size w' va (rdOf s rs) ∧ Below w.heap.size w w' := by
  obtain ⟨i0, hi, hz0, hz1, hz2⟩ := info_parts Try.info3
  obtain ⟨hm, _, hgg, hss⟩ := chk_parts hE
  obtain ⟨h4, hg2, h3, _⟩ := many_small _ _ _ hm
  obtain ⟨hrr, hrk⟩ := chk_ranges hE
  obtain ⟨ad, rfl⟩ : ∃ ad, sa = some ad := by
    obtain ⟨b, off, h, _⟩ := hs 0 (by omega)
    exact ⟨_, h⟩
  have hML : (madeOf (rdOf s rs) gs ss).length ≤ ss.length := by unfold madeOf; split <;> simp [allS]
  have CR0 : Hid (∀ za zc w', IsInts w' za (rdOf s rs) → (za = none → zc = 0) → Below w.heap.size w w' → Calls Try.prog 71 #[.agg #[.slice ra rs.length rc, .slice ga gs.length gc, .slice ta ss.length tc], .slice za (rdOf s rs).length zc] w' fun e w'' => ∃ va vc ma mc, e = .returned (.tuple #[.agg #[.bool (allG (rdOf s rs) gs), .slice va (rdOf s rs).length vc], .slice ma (madeOf (rdOf s rs) gs ss).length mc]) ∧ IsAt w'.heap.size w''.heap.size w'' va (rdOf s rs) ∧ IsAt w'.heap.size w''.heap.size w'' ma (madeOf (rdOf s rs) gs ss) ∧ Below w'.heap.size w' w'') := fun za zc w' hz hn hb =>
    runOf_any ra ga ta rc gc tc rs gs ss za zc (rdOf s rs) w' (ht.below hb) hz hn (by rw [rdOf_len]; exact h4) (rdOf_len s rs) hgg hss h3 hg2
  have hkl : Hid ((rdOf s rs).length = rs.length) := rdOf_len s rs
  have TK : Hid (∀ k, k < rs.length → (rdOf s rs).take (k + 1) = (rdOf s rs).take k ++ [getAt s (rs.getD k 0)]) := fun k h => take_rd s rs k h
  generalize rdOf s rs = Z at *
  generalize madeOf Z gs ss = M at *
  generalize allG Z gs = D at *
  have H8 : Hid (s.length = 8) := h8
  have HS : Hid (IsInts w (some ad) s) := hs
  have HT : Hid (IsTx w ra ga ta rs gs ss) := ht
  have HR : Hid (rangeE rs = 0) := hrr
  have HRK : Hid (rangeE (keysOf ss) = 0) := hrk
  have HG : Hid (firstNZ (gs.map (gErr rs.length)) = 0) := hgg
  have HSS : Hid (firstNZ (ss.map (sErr rs.length)) = 0) := hss
  clear hs h8 ht hE hm hrr hrk hgg hss
  go_enter Try.func39, Try.ntmps39
  have y0 : ((w.alloc (.cells #[.slice ra rs.length rc, .slice ga gs.length gc, .slice ta ss.length tc] 26)).alloc (.cells #[.bool false, .slice none 0 0] 28)).cell? ⟨w.heap.size, 0, none⟩ = some (.slice ra rs.length rc) := by rw [World.cell?_alloc_lt _ _ _ (by simp)]; simp
  have y1 : ((w.alloc (.cells #[.slice ra rs.length rc, .slice ga gs.length gc, .slice ta ss.length tc] 26)).alloc (.cells #[.bool false, .slice none 0 0] 28)).cell? ⟨w.heap.size, 1, none⟩ = some (.slice ga gs.length gc) := by rw [World.cell?_alloc_lt _ _ _ (by simp)]; simp
  have y2 : ((w.alloc (.cells #[.slice ra rs.length rc, .slice ga gs.length gc, .slice ta ss.length tc] 26)).alloc (.cells #[.bool false, .slice none 0 0] 28)).cell? ⟨w.heap.size, 2, none⟩ = some (.slice ta ss.length tc) := by rw [World.cell?_alloc_lt _ _ _ (by simp)]; simp
  have y3 : ((w.alloc (.cells #[.slice ra rs.length rc, .slice ga gs.length gc, .slice ta ss.length tc] 26)).alloc (.cells #[.bool false, .slice none 0 0] 28)).cell? ⟨w.heap.size + 1, 0, none⟩ = some (.bool false) := by simp
  have y4 : ((w.alloc (.cells #[.slice ra rs.length rc, .slice ga gs.length gc, .slice ta ss.length tc] 26)).alloc (.cells #[.bool false, .slice none 0 0] 28)).cell? ⟨w.heap.size + 1, 1, none⟩ = some (.slice none 0 0) := by simp
  have yf : ∀ j, ((w.alloc (.cells #[.slice ra rs.length rc, .slice ga gs.length gc, .slice ta ss.length tc] 26)).alloc (.cells #[.bool false, .slice none 0 0] 28)).frozen? ⟨w.heap.size + 1, j, none⟩ = false := fun j => by simp
  have VB : Hid (Below w.heap.size w ((w.alloc (.cells #[.slice ra rs.length rc, .slice ga gs.length gc, .slice ta ss.length tc] 26)).alloc (.cells #[.bool false, .slice none 0 0] 28))) := grow_alloc (grow_alloc (Below.refl _ _) _) _
  have hV2 : ((w.alloc (.cells #[.slice ra rs.length rc, .slice ga gs.length gc, .slice ta ss.length tc] 26)).alloc (.cells #[.bool false, .slice none 0 0] 28)).heap.size = w.heap.size + 2 := by simp
  go_wp2
  generalize ((w.alloc (.cells #[.slice ra rs.length rc, .slice ga gs.length gc, .slice ta ss.length tc] 26)).alloc (.cells #[.bool false, .slice none 0 0] 28)) = V at *
  obtain ⟨B, hB⟩ : ∃ B, B = V.heap.size := ⟨_, rfl⟩
  go_loopw [6, 7] (fun v i wr => ∃ k : Nat, k ≤ rs.length ∧ i = .int .i64 k ∧ wr.ownsRow B 3 1 v k ((Z.take k).map (Value.int .i64)) ∧ Below B V wr) (fun _ i _ => rs.length - (intOf i).toNat)
  case atStart => exact ⟨0, Nat.zero_le _, rfl, World.ownsRow_nil _ _ _ _, Below.refl _ _⟩
  case round =>
    obtain ⟨k, hk, rfl, hown, hnx⟩ := hrel
    have hsz : B ≤ wr.heap.size := by rw [hB]; exact hnx.size
    have hVw : Below V.heap.size V wr := by rw [← hB]; exact hnx
    have hwr : Hid (Below w.heap.size w wr) := grow_trans VB.out hVw
    have z0 := ext_cell hVw y0
    by_cases hlt : k < rs.length
    · obtain ⟨b, off, rfl, hb, c0⟩ := HT.out.r k hlt
      obtain ⟨hz, hz'⟩ := rangeE_get rs HR.out k hlt
      have HTk : Hid (Z.take (k + 1) = Z.take k ++ [getAt s (rs.getD k 0)]) := TK.out k hlt
      generalize rs.getD k 0 = z at *
      obtain ⟨m, rfl⟩ := Int.eq_ofNat_of_zero_le hz
      have hms : m < s.length := by have := H8.out; omega
      obtain ⟨b', off', hadd, hb', c1⟩ := HS.out m hms
      injection hadd with hadd
      subst hadd
      have d0 := ext_cell hwr.out c0
      have d1 := ext_cell hwr.out c1
      have hg : getAt s (m : Int) = s.getD m 0 := rfl
      rw [hg] at HTk
      generalize s.getD m 0 = y at *
      clear c0 c1 hg hz hz' y0 y1 y2 y3 y4 yf hVw
      go_wp2_with (first
        | (at_builtin; refine wpList_append_own _ rfl _ _ 22 rfl B 3 i0 (.int .i64 0) 1 8 Try.underlying22 hi hz0 hz1 hz2 rfl (by decide) _ _ _ rfl (hown.alloc _) ⟨wr.heap.size, 0, none⟩ 1 1 [.int .i64 y] rfl rfl (news_at _ _ _ (by simp)) (ints_oneCell .i64 [y]) (by unfold maxLen; omega) (by omega) (by simp; omega) ?_; intro v' w1 hown' hgrow _)
        | go_in)
      have R : w1.ownsRow B 3 1 v' (k + 1) ((Z.take (k + 1)).map (Value.int .i64)) := by rw [HTk.out, List.map_append]; exact hown'
      have RB := ((hnx.alloc (by omega) _).grown hgrow (by simp; omega) (fun j hj => (hown.lt j hj).1))
      clear hown' hgrow hown hnx d0 d1 z0
      go_wp2
      go_roundw
      case rel => exact ⟨k + 1, by omega, by go_num, R, RB⟩
      case measure => simp [intOf]; omega
    · have R : wr.ownsRow B 3 1 u6 rs.length (Z.map (Value.int .i64)) := by
        have hkk : k = rs.length := by omega
        rw [hkk, List.take_of_length_le (by rw [hkl.out]; exact Nat.le_refl _)] at hown
        exact hown
      obtain ⟨za, zc, rfl, hza, hzn⟩ := at_of_owns2 R
      have z1 := ext_cell hVw y1
      have z2 := ext_cell hVw y2
      have z3 := ext_cell hVw y3
      have z4 := ext_cell hVw y4
      have zf : ∀ j, wr.frozen? ⟨w.heap.size + 1, j, none⟩ = false := fun j => (hVw.frozen (p := ⟨w.heap.size + 1, j, none⟩) (by show w.heap.size + 1 < _; omega)).trans (yf j)
      have hzi : Hid (IsInts wr za Z) := hza.ints (Nat.le_refl _)
      have hzn' : Hid (za = none → zc = 0) := hzn
      have CR : Hid (Calls Try.prog 71 #[.agg #[.slice ra rs.length rc, .slice ga gs.length gc, .slice ta ss.length tc], .slice za Z.length zc] wr fun e w' => ∃ va vc ma mc, e = .returned (.tuple #[.agg #[.bool D, .slice va Z.length vc], .slice ma M.length mc]) ∧ IsAt wr.heap.size w'.heap.size w' va Z ∧ IsAt wr.heap.size w'.heap.size w' ma M ∧ Below wr.heap.size wr w') := CR0.out za zc wr hzi.out hzn'.out hwr.out
      clear hown hnx y0 y1 y2 y3 y4 yf R hza hzn hzi hzn'
      clear CR0 TK
      go_wp2_with fail
      refine CR.out.mono ?_
      clear CR
      rintro e w2 ⟨va, vc, ma, mc, rfl, hva, hma, hb2⟩
      have U : Below w2.heap.size w2 (w2.alloc (.cells #[.bool D, .slice va Z.length vc] 28)) := grow_alloc (Below.refl _ _) _
      have U2 : Below wr.heap.size wr (w2.alloc (.cells #[.bool D, .slice va Z.length vc] 28)) := grow_trans hb2 U
      have q0 := ext_cell U2 z0
      have q1 := ext_cell U2 z1
      have q2 := ext_cell U2 z2
      have q3 := ext_cell U2 z3
      have q4 := ext_cell U2 z4
      have hlw : w.heap.size + 1 < wr.heap.size := by have := hVw.size; omega
      have qf : ∀ j, (w2.alloc (.cells #[.bool D, .slice va Z.length vc] 28)).frozen? ⟨w.heap.size + 1, j, none⟩ = false := fun j => (U2.frozen (p := ⟨w.heap.size + 1, j, none⟩) hlw).trans (zf j)
      have r0 : (w2.alloc (.cells #[.bool D, .slice va Z.length vc] 28)).cell? ⟨w2.heap.size, 0, none⟩ = some (.bool D) := by simp
      have r1 : (w2.alloc (.cells #[.bool D, .slice va Z.length vc] 28)).cell? ⟨w2.heap.size, 1, none⟩ = some (.slice va Z.length vc) := by simp
      have hva2 : Hid (IsAt (w.heap.size + 2) w2.heap.size (w2.alloc (.cells #[.bool D, .slice va Z.length vc] 28)) va Z) := (hva.below U).widen (by omega) (Nat.le_refl _)
      have hma2 : Hid (IsAt (w.heap.size + 2) w2.heap.size (w2.alloc (.cells #[.bool D, .slice va Z.length vc] 28)) ma M) := (hma.below U).widen (by omega) (Nat.le_refl _)
      have hW : Hid (Below w.heap.size w (w2.alloc (.cells #[.bool D, .slice va Z.length vc] 28))) := grow_trans hwr.out U2
      have hR : w2.heap.size < (w2.alloc (.cells #[.bool D, .slice va Z.length vc] 28)).heap.size := by simp
      have hw2 : w.heap.size + 1 < w2.heap.size := by have := hb2.size; omega
      clear U U2 z0 z1 z2 z3 z4 zf hva hma hb2 hwr hVw hsz
      go_upto_region 7 with fail
      generalize (w2.alloc (.cells #[.bool D, .slice va Z.length vc] 28)) = W at *
      generalize w2.heap.size = R at *
      have hsW : Hid (∀ o : Obj, IsInts (W.alloc o) (some ad) s) := fun o => (HS.out.below hW.out).below (grow_alloc (Below.refl _ _) _)
      go_wp2_with (first
        | (at_builtin; refine wpList_append_own _ rfl _ _ 22 rfl W.heap.size 3 i0 (.int .i64 0) 1 8 Try.underlying22 hi hz0 hz1 hz2 rfl (by decide) _ 0 [] rfl (World.ownsRow_lit W #[] 0 (Nat.le_refl _) (by decide) rfl) ad s.length sc (s.map (Value.int .i64)) rfl (by simp) (news_ints (hsW.out _)) (ints_oneCell .i64 s) (by have := H8.out; unfold maxLen; omega) (by have := H8.out; omega) (by simp) ?_; intro v' w3 hown' hgrow _)
        | go_in)
      have RB : Below W.heap.size W w3 := (grow_alloc (Below.refl _ _) _).grown hgrow (by simp) (fun j hj => by have hj' : some W.heap.size = some j := hj; injection hj' with hj'; exact Nat.le_of_eq hj')
      simp only [Nat.zero_add, List.nil_append] at hown'
      obtain ⟨g, cap, rfl, hg1, hg2⟩ := hown'.form (by have := H8.out; omega)
      have p2 := ext_cell RB q2
      have p3 := ext_cell RB q3
      have p4 := ext_cell RB q4
      have hlW : w.heap.size + 1 < W.heap.size := by omega
      have pf : ∀ j, w3.frozen? ⟨w.heap.size + 1, j, none⟩ = false := fun j => (RB.frozen (p := ⟨w.heap.size + 1, j, none⟩) hlW).trans (qf j)
      have t0 := ext_cell RB r0
      have t1 := ext_cell RB r1
      have hva3 : Hid (IsAt (w.heap.size + 2) R w3 va Z) := hva2.out.below RB
      have hma3 : Hid (IsAt (w.heap.size + 2) R w3 ma M) := hma2.out.below RB
      have hW3 : Hid (Below w.heap.size w w3) := grow_trans hW.out RB
      have hown0 : Hid (w3.ownsRow w.heap.size 3 1 (.slice (some ⟨g, 0, none⟩) s.length cap) s.length (s.map (Value.int .i64))) := own_mono hown' (by omega)
      have hW3s : W.heap.size ≤ w3.heap.size := RB.size
      clear hgrow RB q0 q1 q2 q3 q4 qf r0 r1 hva2 hma2 hW hown' hsW
      have far : ∀ {wx : World}, w3.grownBy wx (some g) → ∀ (b : Nat) j v, b ≠ g → w3.cell? ⟨b, j, none⟩ = some v → wx.cell? ⟨b, j, none⟩ = some v := fun hg b j v hne h => hg.cell h (by simpa using hne)
      go_wp2
      go_loopw [11] (fun i wx => ∃ k : Nat, k ≤ M.length ∧ i = .int .i64 k ∧ wx.ownsRow w.heap.size 3 1 (.slice (some ⟨g, 0, none⟩) s.length cap) s.length ((putAll s ((keysOf ss).take k) (M.take k)).map (Value.int .i64)) ∧ w3.grownBy wx (some g)) (fun i _ => M.length - (intOf i).toNat)
      case atStart => exact ⟨0, Nat.zero_le _, rfl, by simpa [putAll] using hown0.out, World.grownBy.refl _ _⟩
      case round =>
        obtain ⟨k2, hk2, rfl, hown, hgr⟩ := hrel
        by_cases hlt2 : k2 < M.length
        · obtain ⟨b, off, rfl, hb1, hb2, m0⟩ := hma3.out k2 hlt2
          have hks : k2 < ss.length := by omega
          obtain ⟨b', off', rfl, hb', k0, _⟩ := HT.out.s k2 hks
          have hkl2 : k2 < (keysOf ss).length := by rw [keys_len]; exact hks
          obtain ⟨hz, hz'⟩ := rangeE_get (keysOf ss) HRK.out k2 hkl2
          have HTk : Hid (putAll s ((keysOf ss).take (k2 + 1)) (M.take (k2 + 1)) = (putAll s ((keysOf ss).take k2) (M.take k2)).set ((keysOf ss).getD k2 0).toNat (M.getD k2 0)) := putAll_take (keysOf ss) s M k2 hkl2 hlt2
          have k1 : w3.cell? ⟨b', off' + k2 * 6, none⟩ = some (.int .i64 ((keysOf ss).getD k2 0)) := by
            rw [keys_get ss k2 hks]
            exact (ext_cell hW3.out k0)
          generalize (keysOf ss).getD k2 0 = z at *
          obtain ⟨m, rfl⟩ := Int.eq_ofNat_of_zero_le hz
          have hms : m < s.length := by have := H8.out; omega
          have q0 := far hgr _ _ _ (by omega) m0
          have q1 := far hgr _ _ _ (by omega) k1
          have q2 := far hgr _ _ _ (by omega) p2
          have hPl : (putAll s ((keysOf ss).take k2) (M.take k2)).length = s.length := putAll_len _ _ _
          have q3 := row_cell hown hPl m hms
          have q4 : ∀ j, wr.frozen? ⟨g, j, none⟩ = false := fun j => hown.frozenAt j
          have R3 : Hid ((wr.setCell ⟨g, m, none⟩ (.int .i64 (M.getD k2 0))).ownsRow w.heap.size 3 1 (.slice (some ⟨g, 0, none⟩) s.length cap) s.length ((putAll s ((keysOf ss).take (k2 + 1)) (M.take (k2 + 1))).map (Value.int .i64))) := by
            rw [HTk.out, List.map_set]
            exact (hown.stored m (.int .i64 (M.getD k2 0))).1
          have R4 : Hid (w3.grownBy (wr.setCell ⟨g, m, none⟩ (.int .i64 (M.getD k2 0))) (some g)) := hgr.trans (grownBy_one wr g m _)
          generalize (putAll s ((keysOf ss).take k2) (M.take k2)).getD m 0 = y at *
          generalize M.getD k2 0 = y' at *
          clear hown hgr hPl m0 k0 k1 p2 p3 p4 pf t0 t1 hz hz'
          go_wp2
          go_region
          all_goals (
            go_wp2
            go_roundw
            case rel => exact ⟨k2 + 1, by omega, by go_num, R3.out.drew, grownBy_drew2 R4.out⟩
            case measure => simp [intOf]; omega)
        · have hkk : k2 = M.length := by omega
          have hML' : M.length ≤ (keysOf ss).length := by rw [keys_len]; exact hML
          have hfin : Hid (wr.ownsRow w.heap.size 3 1 (.slice (some ⟨g, 0, none⟩) s.length cap) s.length ((putAll s (keysOf ss) M).map (Value.int .i64))) := by
            have h := hown
            rw [hkk, List.take_of_length_le (Nat.le_refl M.length), putAll_cut _ _ _ hML'] at h
            exact h
          have q0 := far hgr _ _ _ (by omega) t0
          have q1 := far hgr _ _ _ (by omega) t1
          have q3 := far hgr _ _ _ (by omega) p3
          have q4 := far hgr _ _ _ (by omega) p4
          have qf : ∀ j, wr.frozen? ⟨w.heap.size + 1, j, none⟩ = false := fun j => (hgr.frozen_far ⟨w.heap.size + 1, j, none⟩ (by show w.heap.size + 1 < _; omega) (by simp; omega)).trans (pf j)
          have hvr : Hid (IsAt (w.heap.size + 2) R wr va Z) := hva3.out.keptBy hgr (fun _ ad ha e => by
            obtain ⟨b, off, ha', _, h2, _⟩ := hva3.out 0 (List.length_pos_iff.2 (by assumption))
            rw [ha] at ha'
            injection ha' with ha'
            subst ha'
            injection e with e
            simp at e
            omega)
          have hRs : R ≤ wr.heap.size := by have := hgr.size; omega
          have hG : Hid (Below w.heap.size w wr) := hW3.out.grown hgr (by omega) (fun j e => by injection e with e; omega)
          clear hown hgr p2 p3 p4 pf t0 t1 far hva3 hma3 hown0
          go_wp2
          go_region
          all_goals (
            go_wp2
            obtain ⟨aa, ac, hae, hai⟩ := at_of_owns hfin.out
            have hPl : (putAll s (keysOf ss) M).length = s.length := putAll_len _ _ _
            rw [← hPl] at hae
            injection hae with e1 e2 e3
            subst e1
            refine bodyPost_ret (v := .tuple #[.slice (some ⟨g, 0, none⟩) s.length cap, .agg #[.bool D, .slice va Z.length vc]]) (by simp [results, Try.results39, go_sem, q3, q4]) rfl ⟨_, cap, va, vc, rfl, ?_, (fun h => by cases h), ?_, ?_⟩
            · have far2 : putAll s (keysOf ss) M ≠ [] → ∀ ad, (some ⟨g, 0, none⟩ : Option Addr) = some ad → (some (w.heap.size + 1) : Option Nat) ≠ some ad.block := fun _ ad ha e => by
                injection ha with ha
                subst ha
                injection e with e
                simp at e
                omega
              exact (((hai.keptBy (grownBy_one wr (w.heap.size + 1) 0 _) far2).keptBy (grownBy_one _ (w.heap.size + 1) 1 _) far2).below (grow_drew (Below.refl _ _))).widen (Nat.le_refl _) (by simp)
            · exact (((hvr.out.set ⟨w.heap.size + 1, 0, none⟩ _ (.inl (by simp))).set ⟨w.heap.size + 1, 1, none⟩ _ (.inl (by simp))).below (grow_drew (Below.refl _ _))).widen (by omega) (by simpa using hRs)
            · exact grow_drew (grow_set (grow_set hG.out (by simp) _) (by simp) _))
end Go.Proofs.Ytfogphljilgogaa

namespace Go.Proofs.Ytfogphljilgogaa
open Go.RowKit

variable (sa la : Option Addr) (sc lc : Nat) (s : List Int) (l : List TxA)

set_option maxRecDepth 100000 in
theorem serE_len {s : List Int} {l : List TxA} (h : ¬ s.length = 8) : serE s l = 1 := by
  have h1 : lenE s = 1 := if_neg h
  unfold serE
  rw [h1]
  rfl
set_option maxRecDepth 100000 in
theorem serE_chk {s : List Int} {l : List TxA} (h : s.length = 8) : serE s l = chkL l := by
  have h1 : lenE s = 0 := if_pos h
  unfold serE
  rw [h1, firstNZ, if_pos rfl, firstNZ, firstNZ]
  split <;> simp_all

set_option maxRecDepth 100000 in
set_option maxHeartbeats 4000000 in
theorem serialOf_ok (w : World) (hs : IsInts w sa s) (h8 : s.length = 8) (hl : IsTxs w la l) (hE : chkL l = 0) :
    Calls Try.prog 18 #[.slice sa s.length sc, .slice la l.length lc] w fun e w' => ∃ ea ec xa xc, e = .returned (.tuple #[.slice ea s.length ec, .slice xa (serRes s l).length xc, .int .i64 0]) ∧ IsInts w' ea (serEnd s l) ∧ IsRes w' xa (serRes s l) ∧ Below w.heap.size w w' := by
  have hl8 := chkL_len hE
  obtain ⟨i0, hi, hz0, hz1, hz2⟩ := info_parts Try.info3
  obtain ⟨ad, rfl⟩ : ∃ ad, sa = some ad := by
    obtain ⟨b, off, h, _⟩ := hs 0 (by omega)
    exact ⟨_, h⟩
  have HS : Hid (IsInts w (some ad) s) := hs
  have HL : Hid (IsTxs w la l) := hl
  have HE : Hid (chkL l = 0) := hE
  have H8 : Hid (s.length = 8) := h8
  have hd8 : Hid (decide (s.length = 8) = true) := decide_eq_true h8
  clear hs hl hE h8
  go_enter Try.func18, Try.ntmps18
  go_wp2_with fail
  refine (isStore_any s (some ad) sc _).mono ?_
  rintro e w0 ⟨rfl, hw0⟩
  rw [hw0, hd8.out]
  clear hw0
  go_wp2_with fail
  refine (checkTxns_any la lc l _ HL.out).mono ?_
  rintro e w1 ⟨rfl, hb1⟩
  rw [HE.out]
  have hs1 : Hid (∀ o : Obj, IsInts (w1.alloc o) (some ad) s) := fun o => (HS.out.below hb1).below (grow_alloc (Below.refl _ _) _)
  go_wp2_with (first
    | (at_builtin; refine wpList_append_own _ rfl _ _ 22 rfl w1.heap.size 3 i0 (.int .i64 0) 1 8 Try.underlying22 hi hz0 hz1 hz2 rfl (by decide) _ 0 [] rfl (World.ownsRow_lit w1 #[] 0 (Nat.le_refl _) (by decide) rfl) ad s.length sc (s.map (Value.int .i64)) rfl (by simp) (news_ints (hs1.out _)) (ints_oneCell .i64 s) (by have := H8.out; unfold maxLen; omega) (by have := H8.out; omega) (by simp) ?_; intro v' w3 hown' hgrow _)
    | go_in)
  have RB : Below w1.heap.size w1 w3 := (grow_alloc (Below.refl _ _) _).grown hgrow (by simp) (fun j hj => by have hj' : some w1.heap.size = some j := hj; injection hj' with hj'; exact Nat.le_of_eq hj')
  simp only [Nat.zero_add, List.nil_append] at hown'
  obtain ⟨oa, oc, rfl, hoa⟩ := at_of_owns hown'
  have hW3 : Hid (Below w.heap.size w w3) := grow_trans hb1 RB
  have hoa' : Hid (IsInts w3 oa s) := hoa.ints (Nat.le_refl _)
  clear hgrow RB hown' hoa hs1 hb1
  go_wp2
  go_loopw [8, 9, 10, 11] (fun o v i _ wr => ∃ (k : Nat) (oa : Option Addr) (oc : Nat) (rl : List RsA), k ≤ l.length ∧ o = .slice oa s.length oc ∧ i = .int .i64 k ∧ Hid (IsInts wr oa (serEnd s (l.take k))) ∧ Hid (ResRow w.heap.size wr v rl) ∧ Hid (rl.map RsA.told = serRes s (l.take k)) ∧ Hid (Below w.heap.size w wr)) (fun _ _ i _ _ => l.length - (intOf i).toNat)
  case atStart => exact ⟨0, oa, oc, [], Nat.zero_le _, rfl, rfl, hoa', resRow_nil _ _, rfl, hW3⟩
  case round =>
    obtain ⟨k, oa, oc, rl, hk, rfl, rfl, hout, hres, htold, hbl⟩ := hrel
    clear hW3 hoa'
    by_cases hlt : k < l.length
    · obtain ⟨b, off, rfl, hb, c0, c1, c2, hx⟩ := HL.out k hlt
      have d0 := ext_cell (grow_alloc hbl.out (.cells #[.bool false, .slice none 0 0] 28)) c0
      have d1 := ext_cell (grow_alloc hbl.out (.cells #[.bool false, .slice none 0 0] 28)) c1
      have d2 := ext_cell (grow_alloc hbl.out (.cells #[.bool false, .slice none 0 0] 28)) c2
      have HX : Hid (IsX w (l.getD k x0)) := hx
      have HC : Hid (chkX (l.getD k x0) = 0) := chkL_at HE.out k hlt
      have HT1 : Hid (serEnd s (l.take (k + 1)) = aEnd (serEnd s (l.take k)) (l.getD k x0)) := serEnd_step s l k hlt
      have HT2 : Hid (serRes s (l.take (k + 1)) = serRes s (l.take k) ++ [(aDone (serEnd s (l.take k)) (l.getD k x0), aVals (serEnd s (l.take k)) (l.getD k x0))]) := serRes_step s l k hlt
      have hs1 : Hid ((serEnd s (l.take k)).length = s.length) := serEnd_len _ _
      have HR1 : Hid ((serRes s (l.take k)).length = k) := by show _ = _; rw [serRes_len, List.length_take]; omega
      clear c0 c1 c2 hx
      generalize serEnd s (l.take k) = s1 at *
      generalize serRes s (l.take k) = R1 at *
      generalize l.getD k x0 = x at *
      obtain ⟨ra, ga, ta, rc, gc, tc, rs, gs, ss⟩ := x
      simp only at d0 d1 d2
      have CA : Hid (Calls Try.prog 39 #[.slice oa s.length oc, .agg #[.slice ra rs.length rc, .slice ga gs.length gc, .slice ta ss.length tc]] (wr.alloc (.cells #[.bool false, .slice none 0 0] 28)) fun e w'' => ∃ a cap va vc, e = .returned (.tuple #[.slice a s.length cap, .agg #[.bool (aDone s1 ⟨ra, ga, ta, rc, gc, tc, rs, gs, ss⟩), .slice va (aVals s1 ⟨ra, ga, ta, rc, gc, tc, rs, gs, ss⟩).length vc]]) ∧ IsAt (wr.heap.size + 1) w''.heap.size w'' a (aEnd s1 ⟨ra, ga, ta, rc, gc, tc, rs, gs, ss⟩) ∧ IsAt (wr.heap.size + 1) w''.heap.size w'' va (aVals s1 ⟨ra, ga, ta, rc, gc, tc, rs, gs, ss⟩) ∧ Below (wr.alloc (.cells #[.bool false, .slice none 0 0] 28)).heap.size (wr.alloc (.cells #[.bool false, .slice none 0 0] 28)) w'') := by
        have h := applyR_any oa oc s1 ra ga ta rc gc tc rs gs ss (wr.alloc (.cells #[.bool false, .slice none 0 0] 28)) (hout.out.below (grow_alloc (Below.refl _ _) _)) (by rw [hs1.out]; exact H8.out) (HX.out.t.below (grow_alloc hbl.out _)) HC.out
        rw [hs1.out] at h
        refine h.mono ?_
        rintro e w'' ⟨a, cap, va, vc, rfl, h1, _, h2, h3⟩
        exact ⟨a, cap, va, vc, rfl, h1.widen (by simp) (Nat.le_refl _), h2.widen (by simp) (Nat.le_refl _), h3⟩
      generalize aDone s1 ⟨ra, ga, ta, rc, gc, tc, rs, gs, ss⟩ = D at *
      generalize aVals s1 ⟨ra, ga, ta, rc, gc, tc, rs, gs, ss⟩ = Z at *
      generalize aEnd s1 ⟨ra, ga, ta, rc, gc, tc, rs, gs, ss⟩ = E1 at *
      have hrl : rl.length ≤ 100 := by
        have h := congrArg List.length htold.out
        rw [List.length_map, HR1.out] at h
        omega
      have hWw : Hid (w.heap.size ≤ wr.heap.size) := hbl.out.size
      have hlo : Hid (∀ j, u9.ownBlock = some j → w.heap.size ≤ j) := fun j hj => (hres.out.1.lt j hj).1
      have hown : Hid (∀ j, u9.ownBlock = some j → j < wr.heap.size) := fun j hj => (hres.out.1.lt j hj).2
      go_wp2_with fail
      refine CA.out.mono ?_
      clear CA
      rintro e wa ⟨a, cap, va, vc, rfl, ha, hva, hba⟩
      have f0 : wa.cell? ⟨wr.heap.size, 0, none⟩ = some (.bool false) := ext_cell hba (by simp)
      have f1 : wa.cell? ⟨wr.heap.size, 1, none⟩ = some (.slice none 0 0) := ext_cell hba (by simp)
      have ff : ∀ j, wa.frozen? ⟨wr.heap.size, j, none⟩ = false := fun j => (hba.frozen (p := ⟨wr.heap.size, j, none⟩) (by simp)).trans (by simp)
      have g0 : ((wa.setCell ⟨wr.heap.size, 0, none⟩ (.bool D)).setCell ⟨wr.heap.size, 1, none⟩ (.slice va Z.length vc)).cell? ⟨wr.heap.size, 0, none⟩ = some (.bool D) := by simp [go_sem, f0]
      have g1 : ((wa.setCell ⟨wr.heap.size, 0, none⟩ (.bool D)).setCell ⟨wr.heap.size, 1, none⟩ (.slice va Z.length vc)).cell? ⟨wr.heap.size, 1, none⟩ = some (.slice va Z.length vc) := by simp [go_sem, f1]
      have U1 : Below wr.heap.size wr ((wa.setCell ⟨wr.heap.size, 0, none⟩ (.bool D)).setCell ⟨wr.heap.size, 1, none⟩ (.slice va Z.length vc)) := grow_set (grow_set (grow_trans (grow_alloc (Below.refl _ _) _) hba) (Nat.le_refl _) _) (Nat.le_refl _) _
      have ha2 : IsAt (wr.heap.size + 1) wa.heap.size ((wa.setCell ⟨wr.heap.size, 0, none⟩ (.bool D)).setCell ⟨wr.heap.size, 1, none⟩ (.slice va Z.length vc)) a E1 := (ha.set ⟨wr.heap.size, 0, none⟩ _ (.inl (by simp))).set ⟨wr.heap.size, 1, none⟩ _ (.inl (by simp))
      have hva2 : IsAt (wr.heap.size + 1) wa.heap.size ((wa.setCell ⟨wr.heap.size, 0, none⟩ (.bool D)).setCell ⟨wr.heap.size, 1, none⟩ (.slice va Z.length vc)) va Z := (hva.set ⟨wr.heap.size, 0, none⟩ _ (.inl (by simp))).set ⟨wr.heap.size, 1, none⟩ _ (.inl (by simp))
      have hws : wa.heap.size = ((wa.setCell ⟨wr.heap.size, 0, none⟩ (.bool D)).setCell ⟨wr.heap.size, 1, none⟩ (.slice va Z.length vc)).heap.size := by simp
      rw [hws] at ha2 hva2
      have hres2 : Hid (ResRow w.heap.size ((wa.setCell ⟨wr.heap.size, 0, none⟩ (.bool D)).setCell ⟨wr.heap.size, 1, none⟩ (.slice va Z.length vc)) u9 rl) := hres.out.below U1
      have hbl2 : Hid (Below w.heap.size w ((wa.setCell ⟨wr.heap.size, 0, none⟩ (.bool D)).setCell ⟨wr.heap.size, 1, none⟩ (.slice va Z.length vc))) := grow_trans hbl.out U1
      have Ha2 : Hid (IsAt (wr.heap.size + 1) ((wa.setCell ⟨wr.heap.size, 0, none⟩ (.bool D)).setCell ⟨wr.heap.size, 1, none⟩ (.slice va Z.length vc)).heap.size ((wa.setCell ⟨wr.heap.size, 0, none⟩ (.bool D)).setCell ⟨wr.heap.size, 1, none⟩ (.slice va Z.length vc)) a E1) := ha2
      have Hva2 : Hid (IsAt (wr.heap.size + 1) ((wa.setCell ⟨wr.heap.size, 0, none⟩ (.bool D)).setCell ⟨wr.heap.size, 1, none⟩ (.slice va Z.length vc)).heap.size ((wa.setCell ⟨wr.heap.size, 0, none⟩ (.bool D)).setCell ⟨wr.heap.size, 1, none⟩ (.slice va Z.length vc)) va Z) := hva2
      go_upto_region 13 with fail
      clear ha hva hba f0 f1 ff U1 hws ha2 hva2 hres hbl hout d0 d1 d2
      generalize ((wa.setCell ⟨wr.heap.size, 0, none⟩ (.bool D)).setCell ⟨wr.heap.size, 1, none⟩ (.slice va Z.length vc)) = W at *
      have hfar : Hid (∀ {zs : List Int} {q : Option Addr}, IsAt (wr.heap.size + 1) W.heap.size W q zs → zs ≠ [] → ∀ ad, q = some ad → u9.ownBlock ≠ some ad.block) := fun h hne ad had e => by
        obtain ⟨b, off, ha', h1, _, _⟩ := h 0 (List.length_pos_iff.2 hne)
        rw [had] at ha'
        injection ha' with ha'
        subst ha'
        have := hown.out _ e
        simp at this
        omega
      go_wp2_with (first
        | (at_builtin; refine wpList_append_rs rfl _ _ rfl w.heap.size u9 rl ⟨va, vc, D, Z⟩ rfl (hres2.out.below (grow_alloc (Below.refl _ _) _)) ⟨W.heap.size, 0, none⟩ 1 rfl (news_rs W D _ _ rfl) (((Hva2.out.below (grow_alloc (Below.refl _ _) _))).widen (by have := hWw.out; omega) (by simp)) (hfar.out Hva2.out) hrl (Nat.le_trans hbl2.out.size (by simp)) ?_; intro v' w4 hres4 hg4)
        | go_in)
      have n1 : Hid (IsInts w4 a (serEnd s (l.take (k + 1)))) := by
        rw [HT1.out]
        exact ((Ha2.out.below (grow_alloc (Below.refl _ _) _)).keptBy hg4 (hfar.out Ha2.out)).ints (Nat.le_trans (by simp) hg4.size)
      have n2 : Hid (ResRow w.heap.size w4 v' (rl ++ [⟨va, vc, D, Z⟩])) := hres4
      have n3 : Hid ((rl ++ [(⟨va, vc, D, Z⟩ : RsA)]).map RsA.told = serRes s (l.take (k + 1))) := by show _ = _; rw [HT2.out, List.map_append, htold.out]; rfl
      have n4 : Hid (Below w.heap.size w w4) := (grow_alloc hbl2.out _).grown hg4 (Nat.le_trans hbl2.out.size (by simp)) (fun j e => hlo.out j e)
      clear hres4 hg4 hres2 hbl2 Ha2 Hva2 hfar g0 g1 hown hlo hWw
      go_wp2
      go_roundw
      case rel => exact ⟨k + 1, a, cap, rl ++ [⟨va, vc, D, Z⟩], by omega, rfl, by go_num, n1, n2, n3, n4⟩
      case measure => simp [intOf]; omega
    · have hkk : k = l.length := by omega
      have n1 : Hid (IsInts wr oa (serEnd s l)) := by
        have h := hout.out
        rw [hkk, List.take_of_length_le (Nat.le_refl _)] at h
        exact h
      have n3 : rl.map RsA.told = serRes s l := by
        have h := htold.out
        rw [hkk, List.take_of_length_le (Nat.le_refl _)] at h
        exact h
      obtain ⟨xa, xc, hv, hrs⟩ := hres.out.res
      rw [n3] at hv hrs
      subst hv
      have n2 : Hid (IsRes wr xa (serRes s l)) := hrs
      clear hout htold hres n3 hrs
      go_wp2
      go_ret3
      exact ⟨oa, oc, xa, xc, rfl, n1.out, n2.out, hbl.out⟩

set_option maxRecDepth 100000 in
set_option maxHeartbeats 1000000 in
theorem serialOf_any (w : World) (hs : IsInts w sa s) (hl : IsTxs w la l) :
    Calls Try.prog 18 #[.slice sa s.length sc, .slice la l.length lc] w fun e w' => ∃ ea ec xa xc, e = .returned (.tuple #[.slice ea (sEnd s l).length ec, .slice xa (sRes s l).length xc, .int .i64 (serE s l)]) ∧ IsInts w' ea (sEnd s l) ∧ IsRes w' xa (sRes s l) ∧ Below w.heap.size w w' := by
  by_cases h8 : s.length = 8
  · have hc := serE_chk (l := l) h8
    by_cases hE : chkL l = 0
    · have he : serE s l = 0 := hc.trans hE
      have e1 : sEnd s l = serEnd s l := if_pos he
      have e2 : sRes s l = serRes s l := if_pos he
      rw [e1, e2, he, serEnd_len]
      exact serialOf_ok sa la sc lc s l w hs h8 hl hE
    · have e1 : Hid (sEnd s l = []) := if_neg (by rw [hc]; exact hE)
      have e2 : Hid (sRes s l = []) := if_neg (by rw [hc]; exact hE)
      rw [hc, e1.out, e2.out]
      have hd8 : Hid (decide (s.length = 8) = true) := decide_eq_true h8
      have hb' : (chkL l != 0) = true := by simpa using hE
      have HL : Hid (IsTxs w la l) := hl
      clear hc hE h8 hs hl e1 e2
      go_enter Try.func18, Try.ntmps18
      go_wp2_with fail
      refine (isStore_any s sa sc _).mono ?_
      rintro e w0 ⟨rfl, hw0⟩
      rw [hw0, hd8.out]
      clear hw0
      go_wp2_with fail
      refine (checkTxns_any la lc l _ HL.out).mono ?_
      rintro e w1 ⟨rfl, hb1⟩
      go_wp2
      go_ret3
      exact ⟨none, 0, none, 0, rfl, fun i hi => absurd hi (by simp), fun i hi => absurd hi (by simp), hb1⟩
  · have hc := serE_len (l := l) h8
    have e1 : Hid (sEnd s l = []) := if_neg (by rw [hc]; decide)
    have e2 : Hid (sRes s l = []) := if_neg (by rw [hc]; decide)
    rw [hc, e1.out, e2.out]
    have hd8 : Hid (decide (s.length = 8) = false) := decide_eq_false h8
    clear hc h8 hs hl e1 e2
    go_enter Try.func18, Try.ntmps18
    go_wp2_with fail
    refine (isStore_any s sa sc _).mono ?_
    rintro e w0 ⟨rfl, hw0⟩
    rw [hw0, hd8.out]
    clear hw0
    go_wp2
    go_ret3
    exact ⟨none, 0, none, 0, rfl, fun i hi => absurd hi (by simp), fun i hi => absurd hi (by simp), Below.refl _ _⟩
end Go.Proofs.Ytfogphljilgogaa

namespace Go.Proofs.Ytfogphljilgogaa
open Go.RowKit

set_option maxRecDepth 100000 in
theorem ext4r {W w' : World} {p1 p2 p3 p4 : Addr} {v1 v2 v3 v4 : Value} (hb : Below W.heap.size W w') (q1 : W.cell? p1 = some v1) (q2 : W.cell? p2 = some v2) (q3 : W.cell? p3 = some v3) (q4 : W.cell? p4 = some v4) :
    w'.cell? p1 = some v1 ∧ w'.cell? p2 = some v2 ∧ w'.cell? p3 = some v3 ∧ w'.cell? p4 = some v4 ∧ Hid (Below W.heap.size W w') := ⟨ext_cell hb q1, ext_cell hb q2, ext_cell hb q3, ext_cell hb q4, hb⟩

set_option maxRecDepth 100000 in
set_option maxHeartbeats 2000000 in
theorem sameResults_eq (R : List (Bool × List Int)) (a a' : Option Addr) (c c' : Nat) (w : World) (hR : R.length ≤ 100) (hI : ∀ r ∈ R, r.2.length ≤ 100) (h1 : IsRes w a R) (h2 : IsRes w a' R) :
    Calls Try.prog 19 #[.slice a R.length c, .slice a' R.length c'] w fun e w' => e = .returned (.bool true) ∧ Below w.heap.size w w' := by
  go_enter Try.func19, Try.ntmps19
  go_wp2
  go_loopw [5] (fun i wr => ∃ k : Nat, k ≤ R.length ∧ i = .int .i64 k ∧ Below w.heap.size w wr) (fun i _ => R.length - (intOf i).toNat)
  case atStart => exact ⟨0, Nat.zero_le _, rfl, Below.refl _ _⟩
  case round =>
    obtain ⟨k, hk, rfl, hnx⟩ := hrel
    by_cases hlt : k < R.length
    · obtain ⟨b, off, va, vc, rfl, hb, c0, c1, hz⟩ := h1 k hlt
      obtain ⟨b', off', va', vc', rfl, hb', e0, e1, hz'⟩ := h2 k hlt
      have hm : R.getD k (false, []) ∈ R := by simp [List.getD, hlt]
      have hl := hI _ hm
      have d0 := ext_cell hnx c0
      have d1 := ext_cell hnx c1
      have f0 := ext_cell hnx e0
      have f1 := ext_cell hnx e1
      have HZ : Hid (IsInts wr va (R.getD k (false, [])).2) := hz.below hnx
      have HZ' : Hid (IsInts wr va' (R.getD k (false, [])).2) := hz'.below hnx
      generalize R.getD k (false, []) = r at *
      obtain ⟨D, Z⟩ := r
      simp only at d0 d1 f0 f1 hl
      have hzl : Hid (Z.length ≤ maxLen) := by show _ ≤ _; unfold maxLen; omega
      have hnx' : Hid (Below w.heap.size w wr) := hnx
      clear c0 c1 e0 e1 hz hz' hm h1 h2 hI hnx hl
      have i1 : (0 : Int) ≤ (k : Int) := by omega
      have i2 : (k : Int) < (R.length : Int) := by omega
      have hKS : Hid (∀ w', Below wr.heap.size wr w' → w'.cell? ⟨b, off + k * 2, none⟩ = some (.bool D) ∧ w'.cell? ⟨b, off + k * 2 + 1, none⟩ = some (.slice va Z.length vc) ∧ w'.cell? ⟨b', off' + k * 2, none⟩ = some (.bool D) ∧ w'.cell? ⟨b', off' + k * 2 + 1, none⟩ = some (.slice va' Z.length vc') ∧ Hid (Below wr.heap.size wr w')) := fun w' h => ext4r h d0 d1 f0 f1
      go_wp2
      go_region_held3 (fun w' => w'.cell? ⟨b, off + k * 2, none⟩ = some (.bool D) ∧ w'.cell? ⟨b, off + k * 2 + 1, none⟩ = some (.slice va Z.length vc) ∧ w'.cell? ⟨b', off' + k * 2, none⟩ = some (.bool D) ∧ w'.cell? ⟨b', off' + k * 2 + 1, none⟩ = some (.slice va' Z.length vc') ∧ Hid (Below wr.heap.size wr w')) ((refine hKS.out _ ?_; go_split_ands; repeat (first | assumption | exact Below.refl _ _ | exact Hid.out (by assumption) | refine grow_drew ?_ | refine grow_alloc ?_ _ | refine grow_trans ?_ (by assumption))))
        (first
          | (go_at_call 16; refine (sameInts_any Z Z va va' vc vc' _ hzl.out ?_ ?_).mono ?_; (refine HZ.out.below ?_; go_split_ands; exact Hid.out (by assumption)); (refine HZ'.out.below ?_; go_split_ands; exact Hid.out (by assumption)); rintro e w' ⟨rfl, hbx⟩))
      go_split_ands
      have RB : ∃ wx, wx = w' ∧ Below w.heap.size w wx := ⟨_, rfl, grow_trans hnx'.out (Hid.out (by assumption))⟩
      obtain ⟨wx, rfl, RB⟩ := RB
      clear hKS d0 d1 f0 f1 HZ HZ'
      go_wp2
      go_roundw
      case rel => exact ⟨k + 1, by omega, by go_num, RB⟩
      case measure => simp [intOf]; omega
    · clear h1 h2
      go_wp2
      go_ret
      exact ⟨rfl, hnx⟩

variable (sa : Option Addr) (sc : Nat) (s : List Int) (ra ga ta : Option Addr) (rc gc tc : Nat) (rs : List Int) (gs : List Gd) (ss : List St)

set_option maxRecDepth 100000 in
theorem chkL_one (x : TxA) : chkL [x] = chkX x := by
  unfold chkL
  rw [if_neg (by simp)]
  simp only [List.map_cons, List.map_nil, firstNZ]
  split <;> simp_all

def apF (s : List Int) (x : TxA) : List Int := if serE s [x] = 0 then aEnd s x else []

set_option maxRecDepth 100000 in
theorem storeApply_any (w : World) (hs : IsInts w sa s) (hx : IsX w ⟨ra, ga, ta, rc, gc, tc, rs, gs, ss⟩) :
    Calls Try.prog 11 #[.slice sa s.length sc, .agg #[.slice ra rs.length rc, .slice ga gs.length gc, .slice ta ss.length tc]] w fun e w' => ∃ ea ec va vc, e = .returned (.tuple #[.slice ea (apF s ⟨ra, ga, ta, rc, gc, tc, rs, gs, ss⟩).length ec, .agg #[.bool (apD s ⟨ra, ga, ta, rc, gc, tc, rs, gs, ss⟩), .slice va (apV s ⟨ra, ga, ta, rc, gc, tc, rs, gs, ss⟩).length vc], .int .i64 (serE s [⟨ra, ga, ta, rc, gc, tc, rs, gs, ss⟩])]) ∧ IsInts w' ea (apF s ⟨ra, ga, ta, rc, gc, tc, rs, gs, ss⟩) ∧ IsInts w' va (apV s ⟨ra, ga, ta, rc, gc, tc, rs, gs, ss⟩) ∧ Below w.heap.size w w' := by
  by_cases hE : serE s [⟨ra, ga, ta, rc, gc, tc, rs, gs, ss⟩] = 0
  · have e1 : apF s ⟨ra, ga, ta, rc, gc, tc, rs, gs, ss⟩ = aEnd s ⟨ra, ga, ta, rc, gc, tc, rs, gs, ss⟩ := if_pos hE
    have e2 : apD s ⟨ra, ga, ta, rc, gc, tc, rs, gs, ss⟩ = aDone s ⟨ra, ga, ta, rc, gc, tc, rs, gs, ss⟩ := if_pos hE
    have e3 : apV s ⟨ra, ga, ta, rc, gc, tc, rs, gs, ss⟩ = aVals s ⟨ra, ga, ta, rc, gc, tc, rs, gs, ss⟩ := if_pos hE
    rw [e1, e2, e3, hE]
    exact storeApply_ok sa sc s ra ga ta rc gc tc rs gs ss w hs hx hE
  · have e1 : apF s ⟨ra, ga, ta, rc, gc, tc, rs, gs, ss⟩ = [] := if_neg hE
    have e2 : apD s ⟨ra, ga, ta, rc, gc, tc, rs, gs, ss⟩ = false := if_neg hE
    have e3 : apV s ⟨ra, ga, ta, rc, gc, tc, rs, gs, ss⟩ = [] := if_neg hE
    rw [e1, e2, e3]
    exact (storeApply_bad sa sc s ra ga ta rc gc tc rs gs ss w hs hx hE).mono fun e w' ⟨h1, h2⟩ => ⟨none, 0, none, 0, h1, fun i hi => absurd hi (by simp), fun i hi => absurd hi (by simp), h2⟩

set_option maxRecDepth 100000 in
set_option maxHeartbeats 1000000 in
theorem applyOf_any (w : World) (hs : IsInts w sa s) (hx : IsX w ⟨ra, ga, ta, rc, gc, tc, rs, gs, ss⟩) :
    Calls Try.prog 12 #[.slice sa s.length sc, .agg #[.slice ra rs.length rc, .slice ga gs.length gc, .slice ta ss.length tc]] w fun e w' => ∃ ea ec va vc, e = .returned (.tuple #[.slice ea (apF s ⟨ra, ga, ta, rc, gc, tc, rs, gs, ss⟩).length ec, .agg #[.bool (apD s ⟨ra, ga, ta, rc, gc, tc, rs, gs, ss⟩), .slice va (apV s ⟨ra, ga, ta, rc, gc, tc, rs, gs, ss⟩).length vc], .int .i64 (serE s [⟨ra, ga, ta, rc, gc, tc, rs, gs, ss⟩])]) ∧ IsInts w' ea (apF s ⟨ra, ga, ta, rc, gc, tc, rs, gs, ss⟩) ∧ IsInts w' va (apV s ⟨ra, ga, ta, rc, gc, tc, rs, gs, ss⟩) ∧ Below w.heap.size w w' := by
  have y0 : ((w.alloc (.cells #[.slice ra rs.length rc, .slice ga gs.length gc, .slice ta ss.length tc] 26)).alloc (.cells #[.bool false, .slice none 0 0] 28)).cell? ⟨w.heap.size, 0, none⟩ = some (.slice ra rs.length rc) := by rw [World.cell?_alloc_lt _ _ _ (by simp)]; simp
  have y1 : ((w.alloc (.cells #[.slice ra rs.length rc, .slice ga gs.length gc, .slice ta ss.length tc] 26)).alloc (.cells #[.bool false, .slice none 0 0] 28)).cell? ⟨w.heap.size, 1, none⟩ = some (.slice ga gs.length gc) := by rw [World.cell?_alloc_lt _ _ _ (by simp)]; simp
  have y2 : ((w.alloc (.cells #[.slice ra rs.length rc, .slice ga gs.length gc, .slice ta ss.length tc] 26)).alloc (.cells #[.bool false, .slice none 0 0] 28)).cell? ⟨w.heap.size, 2, none⟩ = some (.slice ta ss.length tc) := by rw [World.cell?_alloc_lt _ _ _ (by simp)]; simp
  have y3 : ((w.alloc (.cells #[.slice ra rs.length rc, .slice ga gs.length gc, .slice ta ss.length tc] 26)).alloc (.cells #[.bool false, .slice none 0 0] 28)).cell? ⟨w.heap.size + 1, 0, none⟩ = some (.bool false) := by simp
  have y4 : ((w.alloc (.cells #[.slice ra rs.length rc, .slice ga gs.length gc, .slice ta ss.length tc] 26)).alloc (.cells #[.bool false, .slice none 0 0] 28)).cell? ⟨w.heap.size + 1, 1, none⟩ = some (.slice none 0 0) := by simp
  have yf : ∀ j, ((w.alloc (.cells #[.slice ra rs.length rc, .slice ga gs.length gc, .slice ta ss.length tc] 26)).alloc (.cells #[.bool false, .slice none 0 0] 28)).frozen? ⟨w.heap.size + 1, j, none⟩ = false := fun j => by simp
  have VB : Hid (Below w.heap.size w ((w.alloc (.cells #[.slice ra rs.length rc, .slice ga gs.length gc, .slice ta ss.length tc] 26)).alloc (.cells #[.bool false, .slice none 0 0] 28))) := grow_alloc (grow_alloc (Below.refl _ _) _) _
  have hV2 : ((w.alloc (.cells #[.slice ra rs.length rc, .slice ga gs.length gc, .slice ta ss.length tc] 26)).alloc (.cells #[.bool false, .slice none 0 0] 28)).heap.size = w.heap.size + 2 := by simp
  by_cases h8 : s.length = 8
  · have hc : serE s [⟨ra, ga, ta, rc, gc, tc, rs, gs, ss⟩] = chkTx rs gs ss := (serE_chk h8).trans (chkL_one _)
    have hd8 : Hid (decide (s.length = 8) = true) := decide_eq_true h8
    have HX : Hid (IsX w ⟨ra, ga, ta, rc, gc, tc, rs, gs, ss⟩) := hx
    have HS : Hid (IsInts w sa s) := hs
    have H8 : Hid (s.length = 8) := h8
    by_cases hE : chkTx rs gs ss = 0
    · have e1 : apF s ⟨ra, ga, ta, rc, gc, tc, rs, gs, ss⟩ = aEnd s ⟨ra, ga, ta, rc, gc, tc, rs, gs, ss⟩ := if_pos (hc.trans hE)
      have e2 : apD s ⟨ra, ga, ta, rc, gc, tc, rs, gs, ss⟩ = aDone s ⟨ra, ga, ta, rc, gc, tc, rs, gs, ss⟩ := if_pos (hc.trans hE)
      have e3 : apV s ⟨ra, ga, ta, rc, gc, tc, rs, gs, ss⟩ = aVals s ⟨ra, ga, ta, rc, gc, tc, rs, gs, ss⟩ := if_pos (hc.trans hE)
      have HL : Hid ((aEnd s ⟨ra, ga, ta, rc, gc, tc, rs, gs, ss⟩).length = s.length) := aEnd_len _ _
      rw [e1, e2, e3, hc, hE, HL.out]
      have HE : Hid (chkTx rs gs ss = 0) := hE
      have CA : Hid (∀ w', IsInts w' sa s → IsTx w' ra ga ta rs gs ss → Calls Try.prog 39 #[.slice sa s.length sc, .agg #[.slice ra rs.length rc, .slice ga gs.length gc, .slice ta ss.length tc]] w' fun e w'' => ∃ a cap va vc, e = .returned (.tuple #[.slice a s.length cap, .agg #[.bool (aDone s ⟨ra, ga, ta, rc, gc, tc, rs, gs, ss⟩), .slice va (aVals s ⟨ra, ga, ta, rc, gc, tc, rs, gs, ss⟩).length vc]]) ∧ IsAt w'.heap.size w''.heap.size w'' a (aEnd s ⟨ra, ga, ta, rc, gc, tc, rs, gs, ss⟩) ∧ (a = none → cap = 0) ∧ IsAt w'.heap.size w''.heap.size w'' va (aVals s ⟨ra, ga, ta, rc, gc, tc, rs, gs, ss⟩) ∧ Below w'.heap.size w' w'') := fun w' h1 h2 => applyR_any sa sc s ra ga ta rc gc tc rs gs ss w' h1 h8 h2 hE
      generalize aEnd s ⟨ra, ga, ta, rc, gc, tc, rs, gs, ss⟩ = E1 at *
      generalize aDone s ⟨ra, ga, ta, rc, gc, tc, rs, gs, ss⟩ = D at *
      generalize aVals s ⟨ra, ga, ta, rc, gc, tc, rs, gs, ss⟩ = Z at *
      clear hc hE e1 e2 e3 h8 hs hx
      go_enter Try.func12, Try.ntmps12
      go_upto_region 1 with fail
      generalize ((w.alloc (.cells #[.slice ra rs.length rc, .slice ga gs.length gc, .slice ta ss.length tc] 26)).alloc (.cells #[.bool false, .slice none 0 0] 28)) = V at *
      go_wp2_with fail
      refine (isStore_any s sa sc _).mono ?_
      rintro e w0 ⟨rfl, hw0⟩
      rw [hw0, hd8.out]
      clear hw0
      go_wp2_with fail
      refine (checkTxn_any ra ga ta rc gc tc rs gs ss _ (HX.out.t.below VB.out)).mono ?_
      rintro e w1 ⟨rfl, hb1⟩
      rw [HE.out]
      have z0 := ext_cell hb1 y0
      have z1 := ext_cell hb1 y1
      have z2 := ext_cell hb1 y2
      have B1 := grow_trans VB.out hb1
      go_wp2_with fail
      refine (CA.out _ (HS.out.below B1) (HX.out.t.below B1)).mono ?_
      rintro e w2 ⟨a, cap, va, vc, rfl, ha, _, hva, hb2⟩
      have U : Below w2.heap.size w2 (w2.alloc (.cells #[.bool D, .slice va Z.length vc] 28)) := grow_alloc (Below.refl _ _) _
      have U1 : Below V.heap.size V (w2.alloc (.cells #[.bool D, .slice va Z.length vc] 28)) := grow_trans (grow_trans hb1 hb2) U
      have x3 := ext_cell U1 y3
      have x4 := ext_cell U1 y4
      have xf : ∀ j, (w2.alloc (.cells #[.bool D, .slice va Z.length vc] 28)).frozen? ⟨w.heap.size + 1, j, none⟩ = false := fun j => (U1.frozen (p := ⟨w.heap.size + 1, j, none⟩) (by show w.heap.size + 1 < _; omega)).trans (yf j)
      have r0 : (w2.alloc (.cells #[.bool D, .slice va Z.length vc] 28)).cell? ⟨w2.heap.size, 0, none⟩ = some (.bool D) := by simp
      have r1 : (w2.alloc (.cells #[.bool D, .slice va Z.length vc] 28)).cell? ⟨w2.heap.size, 1, none⟩ = some (.slice va Z.length vc) := by simp
      have hs1 : w.heap.size + 2 ≤ w1.heap.size := by have := hb1.size; omega
      have ha2 : Hid (IsAt (w.heap.size + 2) w2.heap.size (w2.alloc (.cells #[.bool D, .slice va Z.length vc] 28)) a E1) := (ha.below U).widen hs1 (Nat.le_refl _)
      have hva2 : Hid (IsAt (w.heap.size + 2) w2.heap.size (w2.alloc (.cells #[.bool D, .slice va Z.length vc] 28)) va Z) := (hva.below U).widen hs1 (Nat.le_refl _)
      have BB : Hid (Below w.heap.size w (w2.alloc (.cells #[.bool D, .slice va Z.length vc] 28))) := grow_trans VB.out U1
      have hws : Hid (w2.heap.size ≤ (w2.alloc (.cells #[.bool D, .slice va Z.length vc] 28)).heap.size) := U.size
      have hs2 : w.heap.size + 2 ≤ w2.heap.size := by have := hb2.size; omega
      go_upto_region 7 with fail
      clear ha hva hb1 hb2 U U1 z0 z1 z2 y0 y1 y2 y3 y4 yf B1 CA
      generalize (w2.alloc (.cells #[.bool D, .slice va Z.length vc] 28)) = W at *
      go_region
      all_goals (
        go_wp2
        refine bodyPost_ret (v := .tuple #[.slice a s.length cap, .agg #[.bool D, .slice va Z.length vc], .int .i64 0]) (by simp [results, Try.results12, go_sem, x3, x4]) rfl ⟨a, cap, va, vc, rfl, ?_, ?_, ?_⟩
        · exact IsAt.ints (((ha2.out.set ⟨w.heap.size + 1, 0, none⟩ _ (.inl (by simp))).set ⟨w.heap.size + 1, 1, none⟩ _ (.inl (by simp))).below (grow_drew (Below.refl _ _))) (by simpa using hws.out)
        · exact IsAt.ints (((hva2.out.set ⟨w.heap.size + 1, 0, none⟩ _ (.inl (by simp))).set ⟨w.heap.size + 1, 1, none⟩ _ (.inl (by simp))).below (grow_drew (Below.refl _ _))) (by simpa using hws.out)
        · exact grow_drew (grow_set (grow_set BB.out (by simp) _) (by simp) _))
    · have e1 : apF s ⟨ra, ga, ta, rc, gc, tc, rs, gs, ss⟩ = [] := if_neg (by rw [hc]; exact hE)
      have e2 : apD s ⟨ra, ga, ta, rc, gc, tc, rs, gs, ss⟩ = false := if_neg (by rw [hc]; exact hE)
      have e3 : apV s ⟨ra, ga, ta, rc, gc, tc, rs, gs, ss⟩ = [] := if_neg (by rw [hc]; exact hE)
      rw [e1, e2, e3, hc]
      have hb' : (chkTx rs gs ss != 0) = true := by simpa using hE
      clear hc hE e1 e2 e3 h8 hs hx
      go_enter Try.func12, Try.ntmps12
      go_upto_region 1 with fail
      generalize ((w.alloc (.cells #[.slice ra rs.length rc, .slice ga gs.length gc, .slice ta ss.length tc] 26)).alloc (.cells #[.bool false, .slice none 0 0] 28)) = V at *
      go_wp2_with fail
      refine (isStore_any s sa sc _).mono ?_
      rintro e w0 ⟨rfl, hw0⟩
      rw [hw0, hd8.out]
      clear hw0
      go_wp2_with fail
      refine (checkTxn_any ra ga ta rc gc tc rs gs ss _ (HX.out.t.below VB.out)).mono ?_
      rintro e w1 ⟨rfl, hb1⟩
      have x3 := ext_cell hb1 y3
      have x4 := ext_cell hb1 y4
      have xf : ∀ j, w1.frozen? ⟨w.heap.size + 1, j, none⟩ = false := fun j => (hb1.frozen (p := ⟨w.heap.size + 1, j, none⟩) (by show w.heap.size + 1 < _; omega)).trans (yf j)
      have BB : Hid (Below w.heap.size w w1) := grow_trans VB.out hb1
      clear y0 y1 y2 y3 y4 yf hb1
      go_wp2
      refine bodyPost_ret (v := .tuple #[.slice none 0 0, .agg #[.bool false, .slice none 0 0], .int .i64 (chkTx rs gs ss)]) (by simp [results, Try.results12, go_sem, x3, x4]) rfl ⟨none, 0, none, 0, rfl, fun i hi => absurd hi (by simp), fun i hi => absurd hi (by simp), ?_⟩
      exact grow_set (grow_set BB.out (by simp) _) (by simp) _
  · have hc : serE s [⟨ra, ga, ta, rc, gc, tc, rs, gs, ss⟩] = 1 := serE_len h8
    have e1 : apF s ⟨ra, ga, ta, rc, gc, tc, rs, gs, ss⟩ = [] := if_neg (by rw [hc]; decide)
    have e2 : apD s ⟨ra, ga, ta, rc, gc, tc, rs, gs, ss⟩ = false := if_neg (by rw [hc]; decide)
    have e3 : apV s ⟨ra, ga, ta, rc, gc, tc, rs, gs, ss⟩ = [] := if_neg (by rw [hc]; decide)
    rw [e1, e2, e3, hc]
    have hd8 : Hid (decide (s.length = 8) = false) := decide_eq_false h8
    clear hc e1 e2 e3 h8 hs hx
    go_enter Try.func12, Try.ntmps12
    go_upto_region 1 with fail
    generalize ((w.alloc (.cells #[.slice ra rs.length rc, .slice ga gs.length gc, .slice ta ss.length tc] 26)).alloc (.cells #[.bool false, .slice none 0 0] 28)) = V at *
    go_wp2_with fail
    refine (isStore_any s sa sc _).mono ?_
    rintro e w0 ⟨rfl, hw0⟩
    rw [hw0, hd8.out]
    clear hw0
    go_wp2
    refine bodyPost_ret (v := .tuple #[.slice none 0 0, .agg #[.bool false, .slice none 0 0], .int .i64 1]) (by simp [results, Try.results12, go_sem, y3, y4]) rfl ⟨none, 0, none, 0, rfl, fun i hi => absurd hi (by simp), fun i hi => absurd hi (by simp), ?_⟩
    exact grow_set (grow_set VB.out (by simp) _) (by simp) _
end Go.Proofs.Ytfogphljilgogaa

namespace Go.Proofs.Ytfogphljilgogaa
open Go.RowKit

set_option maxRecDepth 100000 in
theorem some_of_ints {w : World} {a : Option Addr} {z : Int} {t : List Int} {c : Nat} (h : IsInts w a (z :: t)) : a = none → c = 0 := fun e => by
  obtain ⟨b, off, ha, _⟩ := h 0 (by simp)
  rw [e] at ha
  cases ha
set_option maxRecDepth 100000 in
theorem some_of_gs {w : World} {a : Option Addr} {z : Gd} {t : List Gd} {c : Nat} (h : IsGs w a (z :: t)) : a = none → c = 0 := fun e => by
  obtain ⟨b, off, ha, _⟩ := h 0 (by simp)
  rw [e] at ha
  cases ha
set_option maxRecDepth 100000 in
theorem some_of_ss {w : World} {a : Option Addr} {z : St} {t : List St} {c : Nat} (h : IsSs w a (z :: t)) : a = none → c = 0 := fun e => by
  obtain ⟨b, off, ha, _⟩ := h 0 (by simp)
  rw [e] at ha
  cases ha

set_option maxRecDepth 100000 in
theorem isTxs_three (w : World) (x y z : TxA) (n : Nat) (hn : n = w.heap.size) (hx : IsX w x) (hy : IsX w y) (hz : IsX w z) : IsTxs (w.alloc (.cells #[.slice x.ra x.rs.length x.rc, .slice x.ga x.gs.length x.gc, .slice x.sa x.ss.length x.sc, .slice y.ra y.rs.length y.rc, .slice y.ga y.gs.length y.gc, .slice y.sa y.ss.length y.sc, .slice z.ra z.rs.length z.rc, .slice z.ga z.gs.length z.gc, .slice z.sa z.ss.length z.sc] 26)) (some ⟨n, 0, none⟩) [x, y, z] := by
  subst hn
  intro i hi
  have hi3 : i < 3 := by simpa using hi
  match i, hi3 with
  | 0, _ => exact ⟨w.heap.size, 0, rfl, by simp, by simp, by simp, by simp, hx.below (grow_alloc (Below.refl _ _) _)⟩
  | 1, _ => exact ⟨w.heap.size, 0, rfl, by simp, by simp, by simp, by simp, hy.below (grow_alloc (Below.refl _ _) _)⟩
  | 2, _ => exact ⟨w.heap.size, 0, rfl, by simp, by simp, by simp, by simp, hz.below (grow_alloc (Below.refl _ _) _)⟩

set_option maxRecDepth 100000 in
theorem isInts_eight (w : World) (n : Nat) (a b c d e f g h : Int) (hn : n = w.heap.size) : IsInts (w.alloc (.cells #[.int .i64 a, .int .i64 b, .int .i64 c, .int .i64 d, .int .i64 e, .int .i64 f, .int .i64 g, .int .i64 h] 3)) (some ⟨n, 0, none⟩) [a, b, c, d, e, f, g, h] := by
  subst hn
  intro i hi
  have hi8 : i < 8 := by simpa using hi
  refine ⟨w.heap.size, 0, rfl, by simp, ?_⟩
  match i, hi8 with
  | 0, _ => simp
  | 1, _ => simp
  | 2, _ => simp
  | 3, _ => simp
  | 4, _ => simp
  | 5, _ => simp
  | 6, _ => simp
  | 7, _ => simp

def S0 : List Int := [5, 1, 0, 0, 0, 0, 0, 0]
def S7 : List Int := [5, 1, 0, 0, 0, 0, 0]
abbrev xPay (ra ga sa : Option Addr) (rc gc sc : Nat) : TxA := ⟨ra, ga, sa, rc, gc, sc, [0, 1], [gPay 3], [s1Pay 3, s2Pay 3]⟩
abbrev xNote (ra sa : Option Addr) (rc sc : Nat) : TxA := ⟨ra, none, sa, rc, 0, sc, [1], [], [sNote]⟩
section
variable (ra ga sa ra' ga' sa' ra2 sa2 : Option Addr) (rc gc sc rc' gc' sc' rc2 sc2 : Nat)
set_option maxRecDepth 100000 in
theorem begE1 : serE S0 [xPay ra ga sa rc gc sc] = 0 := by
  rw [serE_chk rfl, chkL_one]
  exact pE
set_option maxRecDepth 100000 in
theorem begF1 : apF S0 (xPay ra ga sa rc gc sc) = [2, 4, 0, 0, 0, 0, 0, 0] := by
  unfold apF
  rw [if_pos (begE1 ra ga sa rc gc sc)]
  show putAll S0 (keysOf [s1Pay 3, s2Pay 3]) (madeOf (rdOf S0 [0, 1]) [gPay 3] [s1Pay 3, s2Pay 3]) = _
  decide +kernel
set_option maxRecDepth 100000 in
theorem begD1 : apD S0 (xPay ra ga sa rc gc sc) = true := by
  unfold apD
  rw [if_pos (begE1 ra ga sa rc gc sc)]
  show allG (rdOf S0 [0, 1]) [gPay 3] = true
  decide +kernel
set_option maxRecDepth 100000 in
theorem begE3 : serE S0 [xPay ra ga sa rc gc sc, xPay ra' ga' sa' rc' gc' sc', xNote ra2 sa2 rc2 sc2] = 0 := by
  rw [serE_chk rfl]
  show firstNZ [chkTx [0, 1] [gPay 3] [s1Pay 3, s2Pay 3], chkTx [0, 1] [gPay 3] [s1Pay 3, s2Pay 3], chkTx [1] [] [sNote]] = 0
  rw [pE, nE]
  rfl
set_option maxRecDepth 100000 in
theorem begS3 : sEnd S0 [xPay ra ga sa rc gc sc, xPay ra' ga' sa' rc' gc' sc', xNote ra2 sa2 rc2 sc2] = [2, 4, 0, 0, 0, 4, 0, 0] := by
  unfold sEnd
  rw [if_pos (begE3 ra ga sa ra' ga' sa' ra2 sa2 rc gc sc rc' gc' sc' rc2 sc2)]
  have h1 : aEnd S0 (xPay ra ga sa rc gc sc) = [2, 4, 0, 0, 0, 0, 0, 0] := by
    show putAll S0 (keysOf [s1Pay 3, s2Pay 3]) (madeOf (rdOf S0 [0, 1]) [gPay 3] [s1Pay 3, s2Pay 3]) = _
    decide +kernel
  have h2 : aEnd [2, 4, 0, 0, 0, 0, 0, 0] (xPay ra' ga' sa' rc' gc' sc') = [2, 4, 0, 0, 0, 0, 0, 0] := by
    show putAll [2, 4, 0, 0, 0, 0, 0, 0] (keysOf [s1Pay 3, s2Pay 3]) (madeOf (rdOf [2, 4, 0, 0, 0, 0, 0, 0] [0, 1]) [gPay 3] [s1Pay 3, s2Pay 3]) = _
    decide +kernel
  have h3 : aEnd [2, 4, 0, 0, 0, 0, 0, 0] (xNote ra2 sa2 rc2 sc2) = [2, 4, 0, 0, 0, 4, 0, 0] := by
    show putAll [2, 4, 0, 0, 0, 0, 0, 0] (keysOf [sNote]) (madeOf (rdOf [2, 4, 0, 0, 0, 0, 0, 0] [1]) [] [sNote]) = _
    decide +kernel
  simp only [serEnd, h1, h2, h3]
set_option maxRecDepth 100000 in
theorem begR3 : sRes S0 [xPay ra ga sa rc gc sc, xPay ra' ga' sa' rc' gc' sc', xNote ra2 sa2 rc2 sc2] = [(true, [5, 1]), (false, [2, 4]), (true, [4])] := by
  unfold sRes
  rw [if_pos (begE3 ra ga sa ra' ga' sa' ra2 sa2 rc gc sc rc' gc' sc' rc2 sc2)]
  have h1 : aEnd S0 (xPay ra ga sa rc gc sc) = [2, 4, 0, 0, 0, 0, 0, 0] := by
    show putAll S0 (keysOf [s1Pay 3, s2Pay 3]) (madeOf (rdOf S0 [0, 1]) [gPay 3] [s1Pay 3, s2Pay 3]) = _
    decide +kernel
  have h2 : aEnd [2, 4, 0, 0, 0, 0, 0, 0] (xPay ra' ga' sa' rc' gc' sc') = [2, 4, 0, 0, 0, 0, 0, 0] := by
    show putAll [2, 4, 0, 0, 0, 0, 0, 0] (keysOf [s1Pay 3, s2Pay 3]) (madeOf (rdOf [2, 4, 0, 0, 0, 0, 0, 0] [0, 1]) [gPay 3] [s1Pay 3, s2Pay 3]) = _
    decide +kernel
  have d1 : aDone S0 (xPay ra ga sa rc gc sc) = true := by
    show allG (rdOf S0 [0, 1]) [gPay 3] = true
    decide +kernel
  have d2 : aDone [2, 4, 0, 0, 0, 0, 0, 0] (xPay ra' ga' sa' rc' gc' sc') = false := by
    show allG (rdOf [2, 4, 0, 0, 0, 0, 0, 0] [0, 1]) [gPay 3] = false
    decide +kernel
  have d3 : aDone [2, 4, 0, 0, 0, 0, 0, 0] (xNote ra2 sa2 rc2 sc2) = true := rfl
  simp only [serRes, h1, h2, d1, d2, d3]
  rfl
end
set_option maxRecDepth 100000 in
theorem beg7 : serE S7 [] = 1 := rfl

theorem isInts_take {w : World} {a : Option Addr} {l : List Int} (h : IsInts w a l) (n : Nat) : IsInts w a (l.take n) := fun i hi => by
  have hl : i < l.length := by rw [List.length_take] at hi; omega
  obtain ⟨b, off, ha, hb, hc⟩ := h i hl
  refine ⟨b, off, ha, hb, ?_⟩
  rw [hc]
  have hn : i < n := by rw [List.length_take] at hi; omega
  simp [List.getD, hn]

set_option maxRecDepth 100000 in
set_option maxHeartbeats 4000000 in
theorem storeBegun_any (w : World) : Calls Try.prog 13 #[] w fun e w' => e = .returned (.bool true) ∧ Below w.heap.size w w' := by
  go_enter Try.func13, Try.ntmps13
  go_wp2_with fail
  have hi0 : Hid (IsInts (w.alloc (.cells #[.int .i64 5, .int .i64 1, .int .i64 0, .int .i64 0, .int .i64 0, .int .i64 0, .int .i64 0, .int .i64 0] 3)) (some ⟨w.heap.size, 0, none⟩) S0) := isInts_eight w _ _ _ _ _ _ _ _ _ rfl
  have hc0 : (w.alloc (.cells #[.int .i64 5, .int .i64 1, .int .i64 0, .int .i64 0, .int .i64 0, .int .i64 0, .int .i64 0, .int .i64 0] 3)).cell? ⟨w.heap.size, 0, none⟩ = some (.int .i64 5) := by simp
  have B0 : Hid (Below w.heap.size w (w.alloc (.cells #[.int .i64 5, .int .i64 1, .int .i64 0, .int .i64 0, .int .i64 0, .int .i64 0, .int .i64 0, .int .i64 0] 3))) := grow_alloc (Below.refl _ _) _
  generalize (w.alloc (.cells #[.int .i64 5, .int .i64 1, .int .i64 0, .int .i64 0, .int .i64 0, .int .i64 0, .int .i64 0, .int .i64 0] 3)) = W0 at *
  refine (pay_any 3 _).mono ?_
  rintro e w1 ⟨ra, ga, sa, rc, gc, sc, rfl, ht1, hb1⟩
  have hx1 : Hid (IsX w1 (xPay ra ga sa rc gc sc)) := ⟨ht1, some_of_ints ht1.r, some_of_gs ht1.g, some_of_ss ht1.s⟩
  clear ht1
  go_wp2_with fail
  refine (storeApply_any (some ⟨w.heap.size, 0, none⟩) 8 S0 ra ga sa rc gc sc [0, 1] [gPay 3] [s1Pay 3, s2Pay 3] _ (hi0.out.below hb1) hx1.out).mono ?_
  rintro e w2 ⟨ea, ec, va, vc, rfl, hea, hva, hb2⟩
  rw [begF1] at hea ⊢
  rw [begD1, begE1]
  clear hva hx1
  generalize apV S0 (xPay ra ga sa rc gc sc) = A at *
  have U3 : Below w2.heap.size w2 (w2.alloc (.cells #[.bool true, .slice va A.length vc] 28)) := grow_alloc (Below.refl _ _) _
  have r0 : (w2.alloc (.cells #[.bool true, .slice va A.length vc] 28)).cell? ⟨w2.heap.size, 0, none⟩ = some (.bool true) := by simp
  have B3 : Hid (Below W0.heap.size W0 (w2.alloc (.cells #[.bool true, .slice va A.length vc] 28))) := grow_trans (grow_trans hb1 hb2) U3
  have hea3 : Hid (IsInts (w2.alloc (.cells #[.bool true, .slice va A.length vc] 28)) ea [2, 4, 0, 0, 0, 0, 0, 0]) := hea.below U3
  clear hb1 hb2 U3 hea
  go_wp2_with fail
  generalize (w2.alloc (.cells #[.bool true, .slice va A.length vc] 28)) = W3 at *
  generalize w2.heap.size = R at *
  refine (pay_any 3 _).mono ?_
  rintro e w4 ⟨ra4, ga4, sa4, rc4, gc4, sc4, rfl, ht4, hb4⟩
  have hx4 : Hid (IsX w4 (xPay ra4 ga4 sa4 rc4 gc4 sc4)) := ⟨ht4, some_of_ints ht4.r, some_of_gs ht4.g, some_of_ss ht4.s⟩
  clear ht4
  go_wp2_with fail
  refine (pay_any 3 _).mono ?_
  rintro e w5 ⟨ra5, ga5, sa5, rc5, gc5, sc5, rfl, ht5, hb5⟩
  have hx5 : Hid (IsX w5 (xPay ra5 ga5 sa5 rc5 gc5 sc5)) := ⟨ht5, some_of_ints ht5.r, some_of_gs ht5.g, some_of_ss ht5.s⟩
  clear ht5
  go_wp2_with fail
  refine (note_any _).mono ?_
  rintro e w6 ⟨ra6, sa6, rc6, sc6, rfl, ht6, hb6⟩
  have hx6 : Hid (IsX w6 (xNote ra6 sa6 rc6 sc6)) := ⟨ht6, some_of_ints ht6.r, fun _ => rfl, some_of_ss ht6.s⟩
  clear ht6
  have B6 : Hid (Below W3.heap.size W3 w6) := grow_trans (grow_trans hb4 hb5) hb6
  have hl6 : Hid (IsTxs (w6.alloc (.cells #[.slice ra4 2 rc4, .slice ga4 1 gc4, .slice sa4 2 sc4, .slice ra5 2 rc5, .slice ga5 1 gc5, .slice sa5 2 sc5, .slice ra6 1 rc6, .slice none 0 0, .slice sa6 1 sc6] 26)) (some ⟨w6.heap.size, 0, none⟩) [xPay ra4 ga4 sa4 rc4 gc4 sc4, xPay ra5 ga5 sa5 rc5 gc5 sc5, xNote ra6 sa6 rc6 sc6]) := isTxs_three w6 (xPay ra4 ga4 sa4 rc4 gc4 sc4) (xPay ra5 ga5 sa5 rc5 gc5 sc5) (xNote ra6 sa6 rc6 sc6) _ rfl (hx4.out.below (grow_trans hb5 hb6)) (hx5.out.below hb6) hx6.out
  clear hb4 hb5 hb6 hx4 hx5 hx6
  go_wp2_with fail
  have U7 : Below w6.heap.size w6 (w6.alloc (.cells #[.slice ra4 2 rc4, .slice ga4 1 gc4, .slice sa4 2 sc4, .slice ra5 2 rc5, .slice ga5 1 gc5, .slice sa5 2 sc5, .slice ra6 1 rc6, .slice none 0 0, .slice sa6 1 sc6] 26)) := grow_alloc (Below.refl _ _) _
  refine (serial_any (some ⟨w.heap.size, 0, none⟩) (some ⟨w6.heap.size, 0, none⟩) 8 3 S0 [xPay ra4 ga4 sa4 rc4 gc4 sc4, xPay ra5 ga5 sa5 rc5 gc5 sc5, xNote ra6 sa6 rc6 sc6] _ (hi0.out.below (grow_trans B3.out (grow_trans B6.out U7))) hl6.out).mono ?_
  rintro e w7 ⟨eb, ebc, xa, xc, rfl, hso, hb7⟩
  rw [begS3, begR3] at hso ⊢
  rw [begE3]
  have B7 : Hid (Below W3.heap.size W3 w7) := grow_trans B6.out (grow_trans U7 hb7)
  have heb : Hid (IsInts w7 eb [2, 4, 0, 0, 0, 4, 0, 0]) := hso.ints
  obtain ⟨b, off, _, _, rfl, _, x1, _, _⟩ := hso.res 1 (by simp)
  obtain ⟨b', off', _, _, he', _, x2, _, _⟩ := hso.res 2 (by simp)
  injection he' with he'
  injection he' with e1 e2 _
  subst e1 e2
  simp only [List.getD_cons_succ, List.getD_cons_zero] at x1 x2
  clear hso hb7 U7 hl6 B6
  go_wp2_with fail
  refine (serial_any (some ⟨w.heap.size, 0, none⟩) none 8 0 S7 [] _ (isInts_take (hi0.out.below (grow_trans B3.out B7.out)) 7) (fun i hi => absurd hi (by simp))).mono ?_
  rintro e w8 ⟨ea8, ec8, xa8, xc8, rfl, _, hb8⟩
  rw [beg7]
  have z1 := ext_cell hb8 x1
  have z2 := ext_cell hb8 x2
  have B8 : Hid (Below W3.heap.size W3 w8) := grow_trans B7.out hb8
  have z0 := ext_cell B8.out r0
  have heb8 : Hid (IsInts w8 eb [2, 4, 0, 0, 0, 4, 0, 0]) := heb.out.below hb8
  have hea8 : Hid (IsInts w8 ea [2, 4, 0, 0, 0, 0, 0, 0]) := hea3.out.below B8.out
  have hc8 := ext_cell (grow_trans B3.out B8.out) hc0
  clear hb8 x1 x2 r0 hc0 heb hea3 B7
  go_wp2_with fail
  refine (storeCheck_any S0 (some ⟨w.heap.size, 0, none⟩) 8 _).mono ?_
  rintro e w' ⟨rfl, hw'⟩
  rw [hw', if_pos (show S0.length = 8 from rfl)]
  clear hw' w'
  go_wp2_with fail
  refine (storeCheck_any [] none 0 _).mono ?_
  rintro e w' ⟨rfl, hw'⟩
  rw [hw', if_neg (show ¬ ([] : List Int).length = 8 by decide)]
  clear hw' w'
  go_wp2_with fail
  refine (sameInts_any [2, 4, 0, 0, 0, 0, 0, 0] [2, 4, 0, 0, 0, 0, 0, 0] ea _ ec 8 _ (by decide) (hea8.out.below (grow_alloc (Below.refl _ _) _)) (isInts_eight _ _ _ _ _ _ _ _ _ _ rfl)).mono ?_
  rintro e w9 ⟨rfl, hb9⟩
  have U9 : Below w8.heap.size w8 w9 := grow_trans (grow_alloc (Below.refl _ _) _) hb9
  have y0 := ext_cell U9 z0
  have y1 := ext_cell U9 z1
  have y2 := ext_cell U9 z2
  have yc := ext_cell U9 hc8
  have heb9 : Hid (IsInts w9 eb [2, 4, 0, 0, 0, 4, 0, 0]) := heb8.out.below U9
  have B9 : Hid (Below W3.heap.size W3 w9) := grow_trans B8.out U9
  clear hb9 U9 z0 z1 z2 hc8 heb8 hea8 B8
  go_wp2_with fail
  refine (sameInts_any [2, 4, 0, 0, 0, 4, 0, 0] [2, 4, 0, 0, 0, 4, 0, 0] eb _ ebc 8 _ (by decide) (heb9.out.below (grow_alloc (Below.refl _ _) _)) (isInts_eight _ _ _ _ _ _ _ _ _ _ rfl)).mono ?_
  rintro e w10 ⟨rfl, hb10⟩
  have U10 : Below w9.heap.size w9 w10 := grow_trans (grow_alloc (Below.refl _ _) _) hb10
  have v0 := ext_cell U10 y0
  have v1 := ext_cell U10 y1
  have v2 := ext_cell U10 y2
  have vc' := ext_cell U10 yc
  have B10 : Hid (Below w.heap.size w w10) := grow_trans (grow_trans B0.out B3.out) (grow_trans B9.out U10)
  clear hb10 U10 y0 y1 y2 yc heb9 B9
  go_wp2
  go_ret
  exact ⟨rfl, B10.out⟩
end Go.Proofs.Ytfogphljilgogaa

namespace Go.Proofs.Ytfogphljilgogaa
open Go.ChangeShapes Go.WideShapes Go.ChangeAt Go.RowKit Go.Deep

section
variable {H : Type} {enc : TypeId × Value → H} {w : World} {base : Nat} {held : Bool}
set_option maxRecDepth 100000 in
theorem open_i {b0 : Nat} {v : Value} {d : DataW H} {p : List MemPlace} (hv : Value.okWide Try.prog w .any b0 3 v) (h : DataW.Trod enc Try.prog w base (fun _ => true) held 3 v d p) :
    ∃ n : Int, v = .int .i64 n ∧ (Lit.int .i64 n).wf = true := by
  obtain ⟨n, rfl, _, _, hw⟩ := open_int Try.underlying3 hv h
  exact ⟨n, rfl, hw⟩
end

set_option maxRecDepth 100000 in
theorem wf_bounds {c : Int} (h : (Lit.int .i64 c).wf = true) : -9223372036854775808 ≤ c ∧ c ≤ 9223372036854775807 := by
  simp only [Lit.wf, Bool.and_eq_true, decide_eq_true_eq] at h
  have e1 : IntKind.i64.min = -9223372036854775808 := by decide
  have e2 : IntKind.i64.max = 9223372036854775807 := by decide
  rw [e1, e2] at h
  exact h

set_option maxRecDepth 100000 in
theorem choose_any (c : Int) (n : Nat) (w : World) (hc : (Lit.int .i64 c).wf = true) (hn : 0 < n) (hn' : n ≤ 100) :
    Calls Try.prog 20 #[.int .i64 c, .int .i64 n] w fun e w' => ∃ k : Nat, k < n ∧ e = .returned (.int .i64 k) ∧ w' = w := by
  obtain ⟨c1, c2⟩ := wf_bounds hc
  clear hc
  by_cases h : c < 0
  · go_enter Try.func20, Try.ntmps20
    go_wp2
    go_ret
    have h1 : 0 ≤ (-(c + 1)) % (n : Int) := Int.emod_nonneg _ (by omega)
    have h2 : (-(c + 1)) % (n : Int) < n := Int.emod_lt_of_pos _ (by omega)
    refine ⟨((-(c + 1)) % (n : Int)).toNat, by omega, ?_, rfl⟩
    show Ending.returned (Value.int .i64 (-(c + 1).tmod ↑n)) = _
    rw [Int.toNat_of_nonneg h1, ← Int.neg_tmod, Int.tmod_eq_emod_of_nonneg (by omega)]
  · go_enter Try.func20, Try.ntmps20
    go_wp2
    go_ret
    have h1 : 0 ≤ c % (n : Int) := Int.emod_nonneg _ (by omega)
    have h2 : c % (n : Int) < n := Int.emod_lt_of_pos _ (by omega)
    exact ⟨(c % (n : Int)).toNat, by omega, by show Ending.returned (Value.int .i64 (c % (n : Int))) = _; rw [Int.toNat_of_nonneg h1], rfl⟩

set_option maxRecDepth 100000 in
/-- Parts of a list of transactions. -/
theorem isTxs_take {w : World} {a : Option Addr} {l : List TxA} (h : IsTxs w a l) (k : Nat) : IsTxs w a (l.take k) := fun i hi => by
  have hl : i < l.length := by rw [List.length_take] at hi; omega
  have hk : i < k := by rw [List.length_take] at hi; omega
  have e : (l.take k).getD i x0 = l.getD i x0 := by simp [List.getD, hk]
  rw [e]
  exact h i hl
set_option maxRecDepth 100000 in
theorem isTxs_drop {w : World} {b off : Nat} {l : List TxA} (h : IsTxs w (some ⟨b, off, none⟩) l) (k : Nat) : IsTxs w (some ⟨b, off + k * 3, none⟩) (l.drop k) := fun i hi => by
  have hl : k + i < l.length := by rw [List.length_drop] at hi; omega
  have e : (l.drop k).getD i x0 = l.getD (k + i) x0 := by simp [List.getD]
  rw [e]
  obtain ⟨b', off', ha, hlt, c0, c1, c2, hx⟩ := h (k + i) hl
  injection ha with ha
  injection ha with e1 e2 _
  subst e1 e2
  have q : off + (k + i) * 3 = off + k * 3 + i * 3 := by omega
  rw [q] at c0 c1 c2
  exact ⟨b, off + k * 3, rfl, hlt, c0, c1, c2, hx⟩
set_option maxRecDepth 100000 in
theorem isRes_take {w : World} {a : Option Addr} {l : List (Bool × List Int)} (h : IsRes w a l) (k : Nat) : IsRes w a (l.take k) := fun i hi => by
  have hl : i < l.length := by rw [List.length_take] at hi; omega
  have hk : i < k := by rw [List.length_take] at hi; omega
  have e : (l.take k).getD i (false, []) = l.getD i (false, []) := by simp [List.getD, hk]
  rw [e]
  exact h i hl
set_option maxRecDepth 100000 in
theorem isRes_drop {w : World} {b off : Nat} {l : List (Bool × List Int)} (h : IsRes w (some ⟨b, off, none⟩) l) (k : Nat) : IsRes w (some ⟨b, off + k * 2, none⟩) (l.drop k) := fun i hi => by
  have hl : k + i < l.length := by rw [List.length_drop] at hi; omega
  have e : (l.drop k).getD i (false, []) = l.getD (k + i) (false, []) := by simp [List.getD]
  rw [e]
  obtain ⟨b', off', va, vc, ha, hlt, c0, c1, hx⟩ := h (k + i) hl
  injection ha with ha
  injection ha with e1 e2 _
  subst e1 e2
  have q : off + (k + i) * 2 = off + k * 2 + i * 2 := by omega
  rw [q] at c0 c1
  exact ⟨b, off + k * 2, va, vc, rfl, hlt, c0, c1, hx⟩
set_option maxRecDepth 100000 in
theorem SO.form {C : Nat} {w : World} {ea xa : Option Addr} {ec xc : Nat} {E : List Int} {R : List (Bool × List Int)} (h : SO C w ea ec xa xc E R) : (xa = none ∧ xc = 0 ∧ R = []) ∨ (∃ b, xa = some ⟨b, 0, none⟩ ∧ R.length ≤ xc) := by
  obtain ⟨_, _, rl, h3, h4⟩ := h
  rcases h3.1.2 with ⟨hv, h0⟩ | ⟨g, cap, cur, hv, _, _, hnc, _⟩
  · injection hv with e1 e2 e3
    exact .inl ⟨e1, e3, List.eq_nil_of_length_eq_zero e2⟩
  · injection hv with e1 e2 e3
    exact .inr ⟨g, e1, by rw [e2, e3]; exact hnc⟩

set_option maxRecDepth 100000 in
theorem serE_part {s : List Int} {l : List TxA} (h : serE s l = 0) (m : List TxA) (hm : ∀ x ∈ m, x ∈ l) (hl : m.length ≤ l.length) (s' : List Int) (hs : s'.length = s.length) : serE s' m = 0 := by
  obtain ⟨h8, hc⟩ := serE_zero h
  rw [serE_chk (hs.trans h8)]
  have hl8 := chkL_len hc
  unfold chkL
  rw [if_neg (by omega)]
  have key : ∀ n : List TxA, (∀ x ∈ n, chkX x = 0) → firstNZ (n.map chkX) = 0 := by
    intro n
    induction n with
    | nil => intro _; rfl
    | cons y t ih =>
      intro hn
      simp only [List.map_cons, firstNZ]
      rw [if_pos (hn y (List.mem_cons_self))]
      exact ih (fun x hx => hn x (List.mem_cons_of_mem _ hx))
  refine key m (fun x hx => ?_)
  obtain ⟨k, hk, rfl⟩ := List.mem_iff_getElem.1 (hm x hx)
  have := chkL_at hc k hk
  simpa [List.getD, hk] using this

set_option maxRecDepth 100000 in
theorem serRes_at (s : List Int) (l : List TxA) (i : Nat) (h : i < l.length) : ((serRes s l).getD i (false, [])).1 = aDone (serEnd s (l.take i)) (l.getD i x0) := by
  have h1 := serRes_app (l.take i) (l.drop i) s
  rw [List.take_append_drop] at h1
  have h2 : (serRes s (l.take i)).length = i := by rw [serRes_len, List.length_take]; omega
  rw [h1]
  rw [drop_get l i x0 h]
  simp only [serRes]
  rw [List.getD_eq_getElem?_getD, List.getElem?_append_right (by omega), h2]
  simp

set_option maxRecDepth 100000 in
/-- What nobody sets stays. -/
theorem serEnd_stays : ∀ (l : List TxA) (s : List Int) (i : Nat), (∀ k, k < l.length → ((serRes s l).getD k (false, [])).1 = true → ∀ z ∈ keysOf (l.getD k x0).ss, z.toNat ≠ i) → (serEnd s l).getD i 0 = s.getD i 0
  | [], _, _, _ => rfl
  | x :: t, s, i, h => by
    rw [serEnd, serEnd_stays t (aEnd s x) i (fun k hk hd => ?_)]
    · by_cases hd : aDone s x = true
      · exact putAll_far _ _ _ _ (h 0 (by simp) (by simpa [serRes] using hd))
      · rw [aEnd_idle s x (by simpa using hd)]
    · exact h (k + 1) (by simpa using hk) (by simpa [serRes] using hd)
end Go.Proofs.Ytfogphljilgogaa

namespace Go.Proofs.Ytfogphljilgogaa
open Go.ChangeShapes Go.WideShapes Go.ChangeAt Go.RowKit Go.Deep


theorem sEnd_small (s : List Int) (l : List TxA) : (sEnd s l).length ≤ 8 := by
  unfold sEnd
  split
  · rename_i h
    rw [serEnd_len]
    have := (serE_zero h).1
    omega
  · simp
theorem sRes_small (s : List Int) (l : List TxA) : (sRes s l).length ≤ 8 := by
  unfold sRes
  split
  · rename_i h
    rw [serRes_len]
    exact chkL_len (serE_zero h).2
  · simp
theorem serRes_vals : ∀ (l : List TxA) (s : List Int), (∀ x ∈ l, x.rs.length ≤ 4) → ∀ r ∈ serRes s l, r.2.length ≤ 4
  | [], s, _, r, hr => by cases hr
  | x :: t, s, h, r, hr => by
    rcases List.mem_cons.1 hr with rfl | hr
    · show (rdOf s x.rs).length ≤ 4
      rw [rdOf_len]
      exact h x (List.mem_cons_self)
    · exact serRes_vals t _ (fun y hy => h y (List.mem_cons_of_mem _ hy)) r hr
theorem chkL_mem {l : List TxA} (h : chkL l = 0) (x : TxA) (hx : x ∈ l) : chkX x = 0 := by
  obtain ⟨k, hk, rfl⟩ := List.mem_iff_getElem.1 hx
  have := chkL_at h k hk
  simpa [List.getD, hk] using this
theorem chkL_reads {l : List TxA} (h : chkL l = 0) : ∀ x ∈ l, x.rs.length ≤ 4 := fun x hx => by
  have h1 : chkTx x.rs x.gs x.ss = 0 := chkL_mem h x hx
  exact (many_small _ _ _ (chk_parts h1).1).1
theorem sRes_vals (s : List Int) (l : List TxA) : ∀ r ∈ sRes s l, r.2.length ≤ 100 := fun r hr => by
  unfold sRes at hr
  split at hr
  · rename_i h
    have := serRes_vals l s (chkL_reads (serE_zero h).2) r hr
    omega
  · cases hr

variable (sa la : Option Addr) (sc lc : Nat) (s : List Int) (l : List TxA)

set_option maxRecDepth 100000 in
set_option maxHeartbeats 2000000 in
theorem storeSerials_walk (w : World) (hs : IsInts w sa s) (hl : IsTxs w la l) :
    Calls Try.prog 4 #[.slice sa s.length sc, .slice la l.length lc] w fun e w' => e = .returned (.bool true) ∧ Below w.heap.size w w' := by
  have HS : Hid (IsInts w sa s) := hs
  have HL : Hid (IsTxs w la l) := hl
  have b1 : Hid ((sEnd s l).length ≤ maxLen) := by show _ ≤ _; have := sEnd_small s l; unfold maxLen; omega
  have b2 : Hid ((sRes s l).length ≤ 100) := by show _ ≤ _; have := sRes_small s l; omega
  have b3 : Hid (∀ r ∈ sRes s l, r.2.length ≤ 100) := sRes_vals s l
  have C1 : Hid (∀ w', IsInts w' sa s → IsTxs w' la l → Calls Try.prog 17 #[.slice sa s.length sc, .slice la l.length lc] w' fun e w'' => ∃ ea ec xa xc, e = .returned (.tuple #[.slice ea (sEnd s l).length ec, .slice xa (sRes s l).length xc, .int .i64 (serE s l)]) ∧ SO w'.heap.size w'' ea ec xa xc (sEnd s l) (sRes s l) ∧ Below w'.heap.size w' w'') := fun w' h1 h2 => serial_any sa la sc lc s l w' h1 h2
  have C2 : Hid (∀ w', IsInts w' sa s → IsTxs w' la l → Calls Try.prog 18 #[.slice sa s.length sc, .slice la l.length lc] w' fun e w'' => ∃ ea ec xa xc, e = .returned (.tuple #[.slice ea (sEnd s l).length ec, .slice xa (sRes s l).length xc, .int .i64 (serE s l)]) ∧ IsInts w'' ea (sEnd s l) ∧ IsRes w'' xa (sRes s l) ∧ Below w'.heap.size w' w'') := fun w' h1 h2 => serialOf_any sa la sc lc s l w' h1 h2
  generalize sEnd s l = E at *
  generalize sRes s l = R at *
  generalize serE s l = er at *
  clear hs hl
  go_enter Try.func4, Try.ntmps4
  go_wp2_with fail
  refine (C1.out _ HS.out HL.out).mono ?_
  rintro e w1 ⟨ea, ec, xa, xc, rfl, hso, hb1⟩
  have hE1 := hso.ints
  have hR1 := hso.res
  clear hso
  go_wp2_with fail
  refine (C2.out _ (HS.out.below hb1) (HL.out.below hb1)).mono ?_
  rintro e w2 ⟨ea2, ec2, xa2, xc2, rfl, hE2, hR2, hb2⟩
  go_wp2_with fail
  refine (storeBegun_any _).mono ?_
  rintro e w3 ⟨rfl, hb3⟩
  have h1 : Hid (IsInts w3 ea E) := (hE1.below hb2).below hb3
  have h2 : Hid (IsInts w3 ea2 E) := hE2.below hb3
  have h3 : Hid (IsRes w3 xa R) := (hR1.below hb2).below hb3
  have h4 : Hid (IsRes w3 xa2 R) := hR2.below hb3
  have B3 : Hid (Below w.heap.size w w3) := grow_trans (grow_trans hb1 hb2) hb3
  clear hE1 hE2 hR1 hR2 hb1 hb2 hb3
  go_wp2_with fail
  refine (sameInts_any E E ea ea2 ec ec2 _ b1.out h1.out h2.out).mono ?_
  rintro e w4 ⟨rfl, hb4⟩
  go_wp2_with fail
  refine (sameResults_eq R xa xa2 xc xc2 _ b2.out b3.out (h3.out.below hb4) (h4.out.below hb4)).mono ?_
  rintro e w5 ⟨rfl, hb5⟩
  have B5 : Below w.heap.size w w5 := grow_trans B3.out (grow_trans hb4 hb5)
  clear hb4 hb5
  go_wp2
  go_ret
  exact ⟨by simp, B5⟩

set_option maxRecDepth 100000 in
theorem storeSerials_lifted (os : Os) (started : os.Started) (H : Type) (enc : TypeId × Value → H) :
    ReturnsInHanded {} Try.checked os 4 .any (Rows.storeSerialsSpec.pre6 enc Try.prog Try.f4 Rows.storeSerialsRow.domain false) (Rows.storeSerialsSpec.post enc Try.prog Try.f4 false true false false) := by
  refine returnsInHanded_of_change (C := Try.checked) ownK started (by kernel_rfl) Try.func4
    (ChangeSpec.witness6 (enc := enc) (C := Try.checked) false ⟨#[], #[.slice none 0 0, .slice none 0 0], []⟩ 8 (by kernel_rfl) (by kernel_rfl) (by kernel_rfl) (by kernel_rfl)) ?_
  intro W base args ds gs0 before hval0 hW hcnd _
  have hval : ∀ (j : Nat) t v, Try.f4.params[j]? = some t → args[j]? = some v → Value.okWide Try.prog W .any base t v := hval0
  have hW' := hW
  obtain ⟨p, q, hA0, hV, rfl, hfz, hnd⟩ := hW
  have hA : DataW.TrodAll enc Try.prog W 0 (fun _ => true) true Try.f4.params.toList args.toList ds p := hA0
  rw [Try.params4] at hA hval
  obtain ⟨v0, vs0, d0, ds0, p0, q0, hargs, rfl, rfl, h0, r0⟩ := trodAll_cons hA
  obtain ⟨v1, vs1, d1, ds1, p1, q1, rfl, rfl, rfl, h1, r1⟩ := trodAll_cons r0
  obtain ⟨rfl, rfl, rfl⟩ := trodAll_nil r1
  obtain rfl : args = #[v0, v1] := by cases args; simp_all
  obtain ⟨rfl, rfl⟩ := trodVars_none hV
  have k0 := h0
  have lt0 : ∀ x ∈ p0, x.block < W.heap.size := by obtain ⟨m, hm⟩ := k0; exact DataW.trod_lt m _ _ _ hm
  have k1 := h1
  have lt1 : ∀ x ∈ p1, x.block < W.heap.size := by obtain ⟨m, hm⟩ := k1; exact DataW.trod_lt m _ _ _ hm
  obtain ⟨za0, zs0, zc0, rfl, hzl0, hz0, hzn0⟩ := open_zs (hval 0 22 v0 rfl rfl) h0
  obtain ⟨la1, l1, lc1, rfl, hll1, hlc1, hl1, hln1⟩ := open_l (hval 1 37 v1 rfl rfl) h1
  clear hA0 hval0
  refine (storeSerials_walk za0 la1 zc0 lc1 zs0 l1 W hz0 hl1).mono fun e W' ⟨he, bel⟩ => ?_
  subst he
  exact ⟨_, rfl, _, _, _, [], _, [], hW', trodAll_mk1 (shut_bool Try.underlying4 _), (trodAll_cons_mk (Below.trod laidOutK (by kernel_rfl) (of_decide_eq_true (by kernel_rfl)) k0 bel lt0) (trodAll_cons_mk (Below.trod laidOutK (by kernel_rfl) (of_decide_eq_true (by kernel_rfl)) k1 bel lt1) trodAll_mk0)), rfl, bel.frame _, fun h => by cases h⟩

set_option maxRecDepth 100000 in
theorem storeSerials_over : Rows.storeSerialsRow.holds Try.pinned (OpenSpec.ofChange Rows.storeSerialsSpec) :=
  OpenClaim.holds_of_wide 4 Try.f4 rfl rfl rfl rfl rfl rfl rfl ⟨rfl, rfl, rfl, rfl, rfl⟩ rfl rfl rfl rfl rfl (by kernel_rfl) Try.func4 (by kernel_rfl)
    (of_decide_eq_true (by kernel_rfl)) (by unfold Func.isWrapper; first | (rw [if_pos (by decide +kernel)]; kernel_rfl) | (rw [if_neg (by decide +kernel)]; exact ⟨rfl, rfl⟩))
    (fun os started H enc _ => storeSerials_lifted os started H enc)

/-- The statement. -/
theorem storeSerials_holds : Rows.StoreSerialsSaid := storeSerials_over
#print axioms storeSerials_holds
end Go.Proofs.Ytfogphljilgogaa

namespace Go.Proofs.Ytfogphljilgogaa
open Go.RowKit

set_option maxRecDepth 100000 in
theorem Try.info26 : (Try.prog.info? 26).map (fun i => (i.zero, i.size, i.bytes)) = some (some (.agg #[.slice none 0 0, .slice none 0 0, .slice none 0 0]), 3, 72) := by kernel_rfl

def xcells (x : TxA) : List Value := [.slice x.ra x.rs.length x.rc, .slice x.ga x.gs.length x.gc, .slice x.sa x.ss.length x.sc]
def flatX : List TxA → List Value
  | [] => []
  | x :: l => xcells x ++ flatX l
theorem flatX_len : ∀ l : List TxA, (flatX l).length = l.length * 3
  | [] => rfl
  | x :: l => by simp [flatX, xcells, flatX_len l]; omega
theorem flatX_app : ∀ (l m : List TxA), flatX (l ++ m) = flatX l ++ flatX m
  | [], _ => rfl
  | x :: l, m => by simp [flatX, flatX_app l m]
theorem flatX_one : ∀ (l : List TxA), ∀ u ∈ flatX l, u.oneCell' = true
  | [], u, h => by cases h
  | x :: l, u, h => by
      simp only [flatX, List.mem_append] at h
      rcases h with h | h
      · simp only [xcells, List.mem_cons, List.not_mem_nil, or_false] at h
        rcases h with rfl | rfl | rfl <;> rfl
      · exact flatX_one l u h
theorem flatX_at : ∀ (l : List TxA) (i j : Nat), i < l.length → j < 3 → (flatX l)[i * 3 + j]? = (xcells (l.getD i x0))[j]?
  | [], i, j, h, _ => absurd h (by simp)
  | x :: l, 0, j, _, hj => by
      simp only [flatX, Nat.zero_mul, Nat.zero_add]
      rw [List.getElem?_append_left (by simpa [xcells] using hj)]
      rfl
  | x :: l, i + 1, j, h, hj => by
      simp only [flatX]
      rw [List.getElem?_append_right (by simp [xcells]; omega)]
      have e : (i + 1) * 3 + j - (xcells x).length = i * 3 + j := by simp [xcells]; omega
      rw [e, flatX_at l i j (by simpa using h) hj]
      rfl

/-- What lies at an address. -/
def Lies (w : World) (ad : Addr) (xs : List Value) : Prop := ∀ j u, xs[j]? = some u → w.cell? (ad.add j) = some u
theorem lies_txs {w : World} {b off : Nat} {l : List TxA} (h : IsTxs w (some ⟨b, off, none⟩) l) : Lies w ⟨b, off, none⟩ (flatX l) := by
  intro j u hj
  have hlt : j < l.length * 3 := by rw [← flatX_len]; exact (List.getElem?_eq_some_iff.1 hj).1
  have hi : j / 3 < l.length := by omega
  have hr : j % 3 < 3 := Nat.mod_lt _ (by decide)
  have ej : j = j / 3 * 3 + j % 3 := by omega
  obtain ⟨b', off', ha, hb, c0, c1, c2, _⟩ := h (j / 3) hi
  injection ha with ha
  injection ha with e1 e2 _
  subst e1 e2
  rw [ej, flatX_at l _ _ hi hr] at hj
  rw [add_none, ej]
  generalize j / 3 = i at *
  generalize j % 3 = r at *
  match r, hr with
  | 0, _ => simp [xcells] at hj; subst hj; simpa using c0
  | 1, _ => simp [xcells] at hj; subst hj; simpa [Nat.add_assoc] using c1
  | 2, _ => simp [xcells] at hj; subst hj; simpa [Nat.add_assoc] using c2
theorem lies_nil (w : World) (ad : Addr) : Lies w ad [] := fun j u hj => by simp at hj
theorem Lies.below {w w' : World} {b off : Nat} {xs : List Value} (h : Lies w ⟨b, off, none⟩ xs) (hb : Below w.heap.size w w') : Lies w' ⟨b, off, none⟩ xs := by
  intro j u hj
  have := h j u hj
  rw [add_none] at this ⊢
  exact ext_cell hb this

theorem txs_of_owns {w : World} {base : Nat} {v : Value} {n : Nat} {l : List TxA} (h : w.ownsRow base 26 3 v n (flatX l)) (hx : ∀ x ∈ l, IsX w x) : ∃ a cap, v = .slice a l.length cap ∧ IsTxs w a l := by
  have hn : l.length = n := by have := h.1; rw [flatX_len] at this; omega
  rcases h.2 with ⟨rfl, h0⟩ | ⟨g, cap, cur, rfl, hb, hg, hnc, hcm, hcs, htake⟩
  · refine ⟨none, 0, by rw [hn, h0], fun i hi => ?_⟩
    omega
  · refine ⟨some ⟨g, 0, none⟩, cap, by rw [hn], fun i hi => ?_⟩
    have hc := fun (j : Nat) (hj : j < 3) (u : Value) (hu : (xcells (l.getD i x0))[j]? = some u) => h.cells (g := g) rfl (i * 3 + j) u ((flatX_at l i j hi hj).trans hu)
    simp only [add_none, Nat.zero_add] at hc
    refine ⟨g, 0, rfl, (Array.getElem?_eq_some_iff.1 hg).1, ?_, ?_, ?_, ?_⟩
    · simpa using hc 0 (by omega) _ rfl
    · simpa using hc 1 (by omega) _ rfl
    · simpa using hc 2 (by omega) _ rfl
    · exact hx _ (by simp [List.getD, hi])

/-- An append of transactions to transactions that the call owns, at a step of a region that draws its order. -/
theorem step_append_xs {w : World} {ops : Array Oper} {o : Oper} {a : Act} {K : Act → World → Prop} {Q : Exit → Act → World → Prop} {E : Prop} (hgd : o.guard = none) (s x : Operand)
    (ho : o.op = .call { callee := .builtin .append, args := #[s, x], argTypes := #[37, 37] })
    (base : Nat) (v : Value) (xs : List TxA) (hs : a.eval s = v) (hown : w.ownsRow base 26 3 v xs.length (flatX xs))
    (ad : Addr) (ys : List TxA) (m c : Nat) (hx : a.eval x = .slice (some ad) m c) (hm : ys.length = m) (hnews : Lies w ad (flatX ys))
    (hsm : xs.length + ys.length ≤ 100) (W0 : World) (hbel : Below W0.heap.size W0 w) (hbs : base = W0.heap.size)
    (h : ∀ v' w', w'.ownsRow base 26 3 v' (xs ++ ys).length (flatX (xs ++ ys)) → Below W0.heap.size W0 w' → K (a.put o.dst v') w') :
    if Region.wanted o (yielded ops a.tmps) = true then Oper.wp Try.prog o a w K Q else E := by
  obtain ⟨i, hi, hz, hsz, hby⟩ := info_parts Try.info26
  have hw : Region.wanted o (yielded ops a.tmps) = true := by simp [Region.wanted, hgd]
  rw [if_pos hw]
  rw [List.length_append, flatX_app] at h
  subst hm
  unfold Oper.wp execOp
  obtain ⟨v', w', hr, h2, h3, _⟩ := run_append_own (P := Try.prog) w base 37 o.type 26 i _ 3 72 Try.underlying37 hi hz hsz hby rfl (by decide) v xs.length (flatX xs) hown ad ys.length c (flatX ys) (flatX_len ys) hnews (flatX_one ys) (by unfold maxLen; omega) (by omega) (hbs ▸ hbel.size)
  simp only [ho, resolve, invoke, builtin, Sem.run_bind, Sem.run_pure, Result.andThen_ok, List.map_toArray, List.map_cons, List.map_nil, hs, hx, hr]
  exact h v' w' h2 (Below.grown hbel h3 hbel.size (fun j hj => hbs ▸ (hown.lt j hj).1))

theorem own_empty3 (w : World) (s base : Nat) (hs : s = w.heap.size) (hb : base ≤ s) : (w.alloc (.cells #[] 26)).ownsRow base 26 3 (.slice (some ⟨s, 0, none⟩) 0 0) 0 [] := by
  subst hs
  exact World.ownsRow_lit w #[] 0 hb (by decide) rfl

/-- A row of results whose values lie anywhere. -/
theorem res_of_owns {w : World} {base : Nat} {v : Value} {n : Nat} {rl : List RsA} (h : w.ownsRow base 28 2 v n (flatR rl)) (hx : ∀ r ∈ rl, IsInts w r.va r.vs) : ∃ a cap, v = .slice a (rl.map RsA.told).length cap ∧ IsRes w a (rl.map RsA.told) := by
  have hl : (rl.map RsA.told).length = rl.length := by simp
  have hn : rl.length = n := by have := h.1; rw [flatR_len] at this; omega
  rcases h.2 with ⟨rfl, h0⟩ | ⟨g, cap, cur, rfl, hb, hg, hnc, hcm, hcs, htake⟩
  · exact ⟨none, 0, by rw [hl, hn, h0], fun i hi => by omega⟩
  · refine ⟨some ⟨g, 0, none⟩, cap, by rw [hl, hn], fun i hi => ?_⟩
    rw [hl] at hi
    obtain ⟨e0, e1⟩ := flatR_at rl i hi
    have hc := fun (j : Nat) (u : Value) (hu : (flatR rl)[j]? = some u) => h.cells (g := g) rfl j u hu
    simp only [add_none, Nat.zero_add] at hc
    have eg : (rl.map RsA.told).getD i (false, []) = (rl.getD i r0).told := by simp [List.getD, hi]
    rw [eg]
    refine ⟨g, 0, (rl.getD i r0).va, (rl.getD i r0).vc, rfl, (Array.getElem?_eq_some_iff.1 hg).1, by simpa [RsA.told] using hc _ _ e0, by simpa [RsA.told] using hc _ _ e1, ?_⟩
    exact hx _ (by simp [List.getD, hi])

/-- The same with results. -/
theorem step_append_res {w : World} {ops : Array Oper} {o : Oper} {a : Act} {K : Act → World → Prop} {Q : Exit → Act → World → Prop} {E : Prop} (s x : Operand)
    (ho : o.op = .call { callee := .builtin .append, args := #[s, x], argTypes := #[38, 38] }) (hw : Region.wanted o (yielded ops a.tmps) = true)
    (base : Nat) (v : Value) (xs : List RsA) (hs : a.eval s = v) (hown : w.ownsRow base 28 2 v xs.length (flatR xs))
    (ad : Addr) (ys : List RsA) (m c : Nat) (hx : a.eval x = .slice (some ad) m c) (hm : ys.length = m) (hnews : Lies w ad (flatR ys))
    (hsm : xs.length + ys.length ≤ 100) (W0 : World) (hbel : Below W0.heap.size W0 w) (hbs : base = W0.heap.size)
    (h : ∀ v' w', w'.ownsRow base 28 2 v' (xs ++ ys).length (flatR (xs ++ ys)) → Below W0.heap.size W0 w' → K (a.put o.dst v') w') :
    if Region.wanted o (yielded ops a.tmps) = true then Oper.wp Try.prog o a w K Q else E := by
  obtain ⟨i, hi, hz, hsz, hby⟩ := info_parts Try.info28
  rw [if_pos hw]
  rw [List.length_append, flatR_app] at h
  subst hm
  unfold Oper.wp execOp
  obtain ⟨v', w', hr, h2, h3, _⟩ := run_append_own (P := Try.prog) w base 38 o.type 28 i _ 2 32 Try.underlying38 hi hz hsz hby rfl (by decide) v xs.length (flatR xs) hown ad ys.length c (flatR ys) (flatR_len ys) hnews (flatR_one ys) (by unfold maxLen; omega) (by omega) (hbs ▸ hbel.size)
  simp only [ho, resolve, invoke, builtin, Sem.run_bind, Sem.run_pure, Result.andThen_ok, List.map_toArray, List.map_cons, List.map_nil, hs, hx, hr]
  exact h v' w' h2 (Below.grown hbel h3 hbel.size (fun j hj => hbs ▸ (hown.lt j hj).1))

theorem own_empty2 (w : World) (s base : Nat) (hs : s = w.heap.size) (hb : base ≤ s) : (w.alloc (.cells #[] 28)).ownsRow base 28 2 (.slice (some ⟨s, 0, none⟩) 0 0) 0 [] := by
  subst hs
  exact World.ownsRow_lit w #[] 0 hb (by decide) rfl

theorem flatR_part {w : World} {b : Nat} : ∀ (rl : List RsA) (k off : Nat), Lies w ⟨b, off, none⟩ (flatR rl) → Lies w ⟨b, off, none⟩ (flatR (rl.take k)) ∧ Lies w ⟨b, off + k * 2, none⟩ (flatR (rl.drop k)) := by
  intro rl k off h
  by_cases hk : k ≤ rl.length
  · have e : flatR rl = flatR (rl.take k) ++ flatR (rl.drop k) := by rw [← flatR_app, List.take_append_drop]
    have e2 : (flatR (rl.take k)).length = k * 2 := by rw [flatR_len, List.length_take, Nat.min_eq_left hk]
    constructor
    · intro j u hj
      refine h j u ?_
      rw [e, List.getElem?_append_left (List.getElem?_eq_some_iff.1 hj).1]
      exact hj
    · intro j u hj
      have := h (k * 2 + j) u (by rw [e, List.getElem?_append_right (by omega), e2]; simpa using hj)
      rw [add_none] at this ⊢
      rw [Nat.add_assoc]
      exact this
  · rw [List.take_of_length_le (by omega), List.drop_eq_nil_of_le (by omega)]
    exact ⟨h, lies_nil _ _⟩

theorem lies_row {w : World} {base : Nat} {g n n' cap : Nat} {xs : List Value} (h : w.ownsRow base 28 2 (.slice (some ⟨g, 0, none⟩) n' cap) n xs) : Lies w ⟨g, 0, none⟩ xs := fun j u hj => h.cells (g := g) rfl j u hj

/-- Who is not done changes nothing. -/
theorem ser_less (s : List Int) (l : List TxA) (k : Nat) (hk : k < l.length) (hd : ((serRes s l).getD k (false, [])).1 = false) :
    serEnd s (l.take k ++ l.drop (k + 1)) = serEnd s l ∧ serRes s (l.take k ++ l.drop (k + 1)) = (serRes s l).take k ++ (serRes s l).drop (k + 1) := by
  have e : l = l.take k ++ (l.getD k x0 :: l.drop (k + 1)) := by
    rw [← drop_get l k x0 hk, List.take_append_drop]
  rw [serRes_at s l k hk] at hd
  have hi := aEnd_idle _ _ hd
  have e1 : serEnd s l = serEnd (serEnd s (l.take k)) (l.drop (k + 1)) := by
    conv => lhs; rw [e]
    rw [serEnd_app, serEnd, hi]
  have hL : (serRes s (l.take k)).length = k := by rw [serRes_len, List.length_take]; omega
  have e2 : serRes s l = serRes s (l.take k) ++ ((aDone (serEnd s (l.take k)) (l.getD k x0), aVals (serEnd s (l.take k)) (l.getD k x0)) :: serRes (serEnd s (l.take k)) (l.drop (k + 1))) := by
    conv => lhs; rw [e]
    rw [serRes_app, serRes, hi]
  constructor
  · rw [serEnd_app, e1]
  · rw [serRes_app, e2, List.take_left' hL]
    congr 1
    have e3 : k + 1 - (serRes s (l.take k)).length = 1 := by omega
    have e4 : (serRes s (l.take k)).drop (k + 1) = [] := List.drop_eq_nil_of_le (by omega)
    rw [List.drop_append, e4, e3]
    rfl

theorem sameStore (a a' : Option Addr) (c c' : Nat) (E : List Int) (h8 : E.length = 8) : ∀ w', IsInts w' a E → IsInts w' a' E → Calls Try.prog 16 #[.slice a 8 c, .slice a' 8 c'] w' fun e w'' => e = .returned (.bool true) ∧ Below w'.heap.size w' w'' := fun w' q1 q2 => by
  have h := sameInts_any E E a a' c c' w' (by rw [h8]; decide) q1 q2
  rw [h8] at h
  exact h.mono fun e w'' ⟨h1, h2⟩ => ⟨by rw [h1]; simp, h2⟩
theorem vals_few {s : List Int} {l : List TxA} (hE : serE s l = 0) : ∀ r ∈ serRes s l, r.2.length ≤ 100 := by
  have h := sRes_vals s l
  have e : sRes s l = serRes s l := if_pos hE
  rw [e] at h
  exact h
theorem hid_in {p : Prop} (h : p) : Hid p := h
end Go.Proofs.Ytfogphljilgogaa
