/-
  What a run of a right transaction comes to: whether its guards hold, a copy of what was read, what its sets make.
  Conditions: the transaction and what was read can be read; it has no error; there are as many values as reads.
-/
import Derived.Test.YtcgpkonfneofdaaTxnI
import Derived.Lib.SliceRun
import Derived.WalkKit
import Derived.WalkSpells
import Derived.WalkLawsBesides
import Derived.Defers
import Derived.Recover
import Derived.ProofKit
import Derived.Deep.RegionHeld
import Derived.Deep.RegionHeld3
import Derived.BigQuiet
namespace Go.Proofs.Ytcgpkonfneofdaa
open Go.RowKit

/-- A list of ints in blocks from lo on, below hi. -/
def IsAt (lo hi : Nat) (w : World) (a : Option Addr) (zs : List Int) : Prop :=
  ∀ i, i < zs.length → ∃ b off, a = some ⟨b, off, none⟩ ∧ lo ≤ b ∧ b < hi ∧ w.cell? ⟨b, off + i, none⟩ = some (.int .i64 (zs.getD i 0))

set_option maxRecDepth 100000 in
theorem IsAt.ints {lo hi : Nat} {w : World} {a : Option Addr} {zs : List Int} (h : IsAt lo hi w a zs) (hh : hi ≤ w.heap.size) : IsInts w a zs := fun i hi' => by
  obtain ⟨b, off, ha, _, h2, hc⟩ := h i hi'
  exact ⟨b, off, ha, Nat.lt_of_lt_of_le h2 hh, hc⟩
set_option maxRecDepth 100000 in
theorem IsAt.below {lo hi : Nat} {w w' : World} {a : Option Addr} {zs : List Int} (h : IsAt lo hi w a zs) (hb : Below w.heap.size w w') : IsAt lo hi w' a zs := fun i hi' => by
  obtain ⟨b, off, ha, h1, h2, hc⟩ := h i hi'
  exact ⟨b, off, ha, h1, h2, ext_cell hb hc⟩
set_option maxRecDepth 100000 in
theorem IsAt.set {lo hi : Nat} {w : World} {a : Option Addr} {zs : List Int} (h : IsAt lo hi w a zs) (p : Addr) (v : Value) (hp : p.block < lo ∨ hi ≤ p.block) : IsAt lo hi (w.setCell p v) a zs := fun i hi' => by
  obtain ⟨b, off, ha, h1, h2, hc⟩ := h i hi'
  refine ⟨b, off, ha, h1, h2, ?_⟩
  rw [World.cell?_setCell_far _ _ _ _ (by simp; omega)]
  exact hc
set_option maxRecDepth 100000 in
theorem IsAt.widen {lo hi lo' hi' : Nat} {w : World} {a : Option Addr} {zs : List Int} (h : IsAt lo hi w a zs) (h1 : lo' ≤ lo) (h2 : hi ≤ hi') : IsAt lo' hi' w a zs := fun i hi'' => by
  obtain ⟨b, off, ha, h3, h4, hc⟩ := h i hi''
  exact ⟨b, off, ha, by omega, by omega, hc⟩

set_option maxRecDepth 100000 in
theorem at_of_owns {w : World} {base : Nat} {v : Value} {n : Nat} {zs : List Int} (h : w.ownsRow base 3 1 v n (zs.map (Value.int .i64))) : ∃ a cap, v = .slice a zs.length cap ∧ IsAt base w.heap.size w a zs := by
  have hn : zs.length = n := by have := h.1; simpa using this
  rcases h.2 with ⟨rfl, h0⟩ | ⟨g, cap, cur, rfl, hb, hg, hnc, hcm, hcs, htake⟩
  · refine ⟨none, 0, by rw [hn, h0], fun i hi => ?_⟩
    omega
  · refine ⟨some ⟨g, 0, none⟩, cap, by rw [hn], fun i hi => ⟨g, 0, rfl, hb, (Array.getElem?_eq_some_iff.1 hg).1, ?_⟩⟩
    have hc := h.cellAt i (by omega)
    rw [Nat.zero_add, hc]
    simp [List.getD, hi]

set_option maxRecDepth 100000 in
theorem add_none (b off j : Nat) : (⟨b, off, none⟩ : Addr).add j = ⟨b, off + j, none⟩ := by
  unfold Addr.add
  by_cases h : j = 0
  · subst h; simp
  · simp [h]

set_option maxRecDepth 100000 in
theorem clone_own (zs : List Int) (ad : Addr) (zc : Nat) (w : World) (h4 : zs.length ≤ 4) (hz : IsInts w (some ad) zs) :
    Calls Try.prog 74 #[.slice (some ad) zs.length zc] w fun e w' => ∃ v, e = .returned v ∧ w'.ownsRow w.heap.size 3 1 v zs.length (zs.map (Value.int .i64)) ∧ Below w.heap.size w w' := by
  have q24 : ∀ (w : World) (a : Option Addr) (n c n' c' : Nat), (binOp .eql 22 (.slice a n c) (.slice none n' c')).run Try.prog w = .ok (.bool a.isNone) w := fun w a n c n' c' => Lib.run_eql_slice_nil w _ _ a n c n' c' Try.underlying22
  obtain ⟨i0, hi, hz0, hz1, hz2⟩ := info_parts Try.info3
  have hnews : ∀ (o : Obj) j u, (zs.map (Value.int .i64))[j]? = some u → (w.alloc o).cell? (ad.add j) = some u := by
    intro o j u hj
    have hlt : j < zs.length := by
      have := (List.getElem?_eq_some_iff.1 hj).1
      simpa using this
    obtain ⟨b, off, ha, hb, hc⟩ := hz j hlt
    injection ha with ha
    subst ha
    rw [add_none, World.cell?_alloc_lt _ _ _ hb, hc]
    simp [hlt] at hj
    simp [List.getD, hlt, hj]
  clear hz
  go_enter Try.func74, Try.ntmps74
  go_wp2_with (first
    | (at_builtin; refine wpList_append_own _ rfl _ _ 22 rfl w.heap.size 3 i0 (.int .i64 0) 1 8 Try.underlying22 hi hz0 hz1 hz2 rfl (by decide) _ 0 [] rfl (World.ownsRow_lit w #[] 0 (Nat.le_refl _) (by decide) rfl) ad zs.length zc (zs.map (Value.int .i64)) rfl (by simp) (hnews _) (ints_oneCell .i64 zs) (by unfold maxLen; omega) (by omega) (by simp) ?_; intro v' w1 hown' hgrow _)
    | go_in)
  have RB : Below w.heap.size w w1 := (grow_alloc (Below.refl _ _) _).grown hgrow (by simp) (fun j hj => by have hj' : some w.heap.size = some j := hj; injection hj' with hj'; exact Nat.le_of_eq hj')
  simp only [Nat.zero_add, List.nil_append] at hown'
  clear hgrow hnews
  go_wp2
  go_ret
  exact ⟨_, rfl, hown', RB⟩

set_option maxRecDepth 100000 in
theorem clone_nil (w : World) : Calls Try.prog 74 #[.slice none 0 0] w fun e w' => e = .returned (.slice none 0 0) ∧ w' = w := by
  have q24 : ∀ (w : World) (a : Option Addr) (n c n' c' : Nat), (binOp .eql 22 (.slice a n c) (.slice none n' c')).run Try.prog w = .ok (.bool a.isNone) w := fun w a n c n' c' => Lib.run_eql_slice_nil w _ _ a n c n' c' Try.underlying22
  go_enter Try.func74, Try.ntmps74
  go_wp2
  go_ret
  exact ⟨rfl, rfl⟩

set_option maxRecDepth 100000 in
theorem clone_any (zs : List Int) (za : Option Addr) (zc : Nat) (w : World) (h4 : zs.length ≤ 4) (hz : IsInts w za zs) (hn : za = none → zc = 0) :
    Calls Try.prog 74 #[.slice za zs.length zc] w fun e w' => ∃ a cap, e = .returned (.slice a zs.length cap) ∧ IsAt w.heap.size w'.heap.size w' a zs ∧ Below w.heap.size w w' := by
  cases za with
  | none =>
    have hzs : zs = [] := by
      cases zs with
      | nil => rfl
      | cons z t =>
        obtain ⟨b, off, ha, _⟩ := hz 0 (by simp)
        cases ha
    subst hzs
    rw [hn rfl]
    exact (clone_nil w).mono fun e w' ⟨he, hw⟩ => ⟨none, 0, he, fun i hi => absurd hi (by simp), by rw [hw]; exact Below.refl _ _⟩
  | some ad =>
    exact (clone_own zs ad zc w h4 hz).mono fun e w' ⟨v, he, ho, hb⟩ => by
      obtain ⟨a, cap, rfl, hza⟩ := at_of_owns ho
      exact ⟨a, cap, he, hza, hb⟩

variable (ra ga sa : Option Addr) (rc gc sc : Nat) (rs : List Int) (gs : List Gd) (ss : List St) (za : Option Addr) (zc : Nat) (zs : List Int)

set_option maxRecDepth 100000 in
theorem setValues_at (w : World) (ht : IsTx w ra ga sa rs gs ss) (hz : IsInts w za zs) (hzl0 : zs.length ≤ maxLen) (hlen : zs.length = rs.length) (hs0 : firstNZ (ss.map (sErr rs.length)) = 0) (h3 : ss.length ≤ 3) :
    Calls Try.prog 83 #[.agg #[.slice ra rs.length rc, .slice ga gs.length gc, .slice sa ss.length sc], .slice za zs.length zc] w fun e w' => ∃ a cap, e = .returned (.slice a (allS zs ss).length cap) ∧ IsAt (w.heap.size + 1) w'.heap.size w' a (allS zs ss) ∧ Below w.heap.size w w' :=
  (setValues_own ra ga sa rc gc sc rs gs ss za zc zs w ht hz hzl0 hlen hs0 h3).mono fun e w' ⟨v, he, ho, hb⟩ => by
    obtain ⟨a, cap, rfl, hz⟩ := at_of_owns ho
    exact ⟨a, cap, he, hz, hb⟩

/-- What a run makes. -/
def madeOf (zs : List Int) (gs : List Gd) (ss : List St) : List Int := if allG zs gs then allS zs ss else []

set_option maxRecDepth 100000 in
set_option maxHeartbeats 2000000 in
theorem outcome_no (w : World) (ht : IsTx w ra ga sa rs gs ss) (hz : IsInts w za zs) (hn : za = none → zc = 0) (h4 : zs.length ≤ 4) (hlen : zs.length = rs.length) (hg0 : firstNZ (gs.map (gErr rs.length)) = 0) (hd : allG zs gs = false) :
    Calls Try.prog 52 #[.agg #[.slice ra rs.length rc, .slice ga gs.length gc, .slice sa ss.length sc], .slice za zs.length zc] w fun e w' => ∃ va vc, e = .returned (.agg #[.bool false, .slice va zs.length vc, .slice none 0 0]) ∧ IsAt w.heap.size w'.heap.size w' va zs ∧ Below w.heap.size w w' := by
  have hzl : Hid (zs.length ≤ maxLen) := by show _ ≤ _; unfold maxLen; omega
  have HT : Hid (IsTx w ra ga sa rs gs ss) := ht
  have HZ : Hid (IsInts w za zs) := hz
  have HG : Hid (firstNZ (gs.map (gErr rs.length)) = 0) := hg0
  have HL : Hid (zs.length = rs.length) := hlen
  have HN : Hid (za = none → zc = 0) := hn
  have HD : Hid (allG zs gs = false) := hd
  clear ht hz hg0 hlen hn hd
  go_enter Try.func52, Try.ntmps52
  go_wp2_with fail
  refine (guardsHold_ok ra ga sa rc gc sc rs gs ss za zc zs _ (HT.out.below (by repeat (first | assumption | exact Below.refl _ _ | refine grow_drew ?_ | refine grow_alloc ?_ _ | refine grow_trans ?_ (by assumption)))) (HZ.out.below (by repeat (first | assumption | exact Below.refl _ _ | refine grow_drew ?_ | refine grow_alloc ?_ _ | refine grow_trans ?_ (by assumption)))) hzl.out HL.out HG.out).mono ?_
  rintro e w1 ⟨rfl, hb1⟩
  rw [HD.out]
  go_wp2_with fail
  have B1 : Below w.heap.size w w1 := by repeat (first | assumption | exact Below.refl _ _ | refine grow_drew ?_ | refine grow_alloc ?_ _ | refine grow_trans ?_ (by assumption))
  refine (clone_any zs za zc _ h4 (HZ.out.below B1) HN.out).mono ?_
  rintro e w2 ⟨va, vc, rfl, hva, hb2⟩
  have z0 : w1.cell? ⟨w.heap.size + 1, 0, none⟩ = some (.bool false) := (hb1.cell (by simp)).trans (by simp)
  have z1 : w1.cell? ⟨w.heap.size + 1, 1, none⟩ = some (.slice none 0 0) := (hb1.cell (by simp)).trans (by simp)
  have z2 : w1.cell? ⟨w.heap.size + 1, 2, none⟩ = some (.slice none 0 0) := (hb1.cell (by simp)).trans (by simp)
  have f1 : ∀ j, w1.frozen? ⟨w.heap.size + 1, j, none⟩ = false := fun j => (hb1.frozen (p := ⟨w.heap.size + 1, j, none⟩) (by simp)).trans (by simp)
  have x0 := ext_cell hb2 z0
  have x1 := ext_cell hb2 z1
  have x2 := ext_cell hb2 z2
  have hq := World.block_lt_of_cell? w1 _ z0
  have g1 : ∀ j, w2.frozen? ⟨w.heap.size + 1, j, none⟩ = false := fun j => (hb2.frozen (p := ⟨w.heap.size + 1, j, none⟩) hq).trans (f1 j)
  have hq2 : w.heap.size + 1 < w2.heap.size := Nat.lt_of_lt_of_le hq hb2.size
  have X0 := fun o => ext_cell (grow_alloc (Below.refl w2.heap.size w2) o) x0
  have X1 := fun o => ext_cell (grow_alloc (Below.refl w2.heap.size w2) o) x1
  have X2 := fun o => ext_cell (grow_alloc (Below.refl w2.heap.size w2) o) x2
  have G1 : ∀ o j, (w2.alloc o).frozen? ⟨w.heap.size + 1, j, none⟩ = false := fun o j => ((grow_alloc (Below.refl w2.heap.size w2) o).frozen (p := ⟨w.heap.size + 1, j, none⟩) hq2).trans (g1 j)
  have B2 := grow_trans B1 hb2
  have HB1 : Hid (w.heap.size ≤ w1.heap.size) := B1.size
  clear z0 z1 z2 f1 HT HZ HG HL HN HD
  go_wp2
  have r0 : ((((w2.setCell ⟨w.heap.size + 1, 0, none⟩ (.bool false)).setCell ⟨w.heap.size + 1, 1, none⟩ (.slice va zs.length vc)).setCell ⟨w.heap.size + 1, 2, none⟩ (.slice none 0 0)).alloc (.cells #[.bool false, .slice va zs.length vc, .slice none 0 0] 87)).cell? ⟨w.heap.size + 1, 0, none⟩ = some (.bool false) := by rw [World.cell?_alloc_lt _ _ _ (by simp; omega)]; simp [go_sem, x0]
  have r1 : ((((w2.setCell ⟨w.heap.size + 1, 0, none⟩ (.bool false)).setCell ⟨w.heap.size + 1, 1, none⟩ (.slice va zs.length vc)).setCell ⟨w.heap.size + 1, 2, none⟩ (.slice none 0 0)).alloc (.cells #[.bool false, .slice va zs.length vc, .slice none 0 0] 87)).cell? ⟨w.heap.size + 1, 1, none⟩ = some (.slice va zs.length vc) := by rw [World.cell?_alloc_lt _ _ _ (by simp; omega)]; simp [go_sem, x1]
  have r2 : ((((w2.setCell ⟨w.heap.size + 1, 0, none⟩ (.bool false)).setCell ⟨w.heap.size + 1, 1, none⟩ (.slice va zs.length vc)).setCell ⟨w.heap.size + 1, 2, none⟩ (.slice none 0 0)).alloc (.cells #[.bool false, .slice va zs.length vc, .slice none 0 0] 87)).cell? ⟨w.heap.size + 1, 2, none⟩ = some (.slice none 0 0) := by rw [World.cell?_alloc_lt _ _ _ (by simp; omega)]; simp [go_sem, x2]
  refine bodyPost_ret (v := .agg #[.bool false, .slice va zs.length vc, .slice none 0 0]) (by simp [results, Try.results52, go_sem, r0, r1, r2]) rfl ⟨va, vc, rfl, ?_, ?_⟩
  · have h1 := ((hva.set ⟨w.heap.size + 1, 0, none⟩ (.bool false) (.inl hq)).set ⟨w.heap.size + 1, 1, none⟩ (.slice va zs.length vc) (.inl hq)).set ⟨w.heap.size + 1, 2, none⟩ (.slice none 0 0) (.inl hq)
    exact (h1.below (grow_alloc (Below.refl _ _) _)).widen HB1.out (by simp)
  · exact grow_alloc (grow_set (grow_set (grow_set B2 (by simp) _) (by simp) _) (by simp) _) _

set_option maxRecDepth 100000 in
set_option maxHeartbeats 4000000 in
theorem outcome_yes (w : World) (ht : IsTx w ra ga sa rs gs ss) (hz : IsInts w za zs) (hn : za = none → zc = 0) (h4 : zs.length ≤ 4) (hlen : zs.length = rs.length) (hg0 : firstNZ (gs.map (gErr rs.length)) = 0) (hs0 : firstNZ (ss.map (sErr rs.length)) = 0) (h3 : ss.length ≤ 3) (hd : allG zs gs = true) :
    Calls Try.prog 52 #[.agg #[.slice ra rs.length rc, .slice ga gs.length gc, .slice sa ss.length sc], .slice za zs.length zc] w fun e w' => ∃ va vc ma mc, e = .returned (.agg #[.bool true, .slice va zs.length vc, .slice ma (allS zs ss).length mc]) ∧ IsAt w.heap.size w'.heap.size w' va zs ∧ IsAt w.heap.size w'.heap.size w' ma (allS zs ss) ∧ Below w.heap.size w w' := by
  have hzl : Hid (zs.length ≤ maxLen) := by show _ ≤ _; unfold maxLen; omega
  have HT : Hid (IsTx w ra ga sa rs gs ss) := ht
  have HZ : Hid (IsInts w za zs) := hz
  have HG : Hid (firstNZ (gs.map (gErr rs.length)) = 0) := hg0
  have HS : Hid (firstNZ (ss.map (sErr rs.length)) = 0) := hs0
  have HL : Hid (zs.length = rs.length) := hlen
  have HN : Hid (za = none → zc = 0) := hn
  have HD : Hid (allG zs gs = true) := hd
  clear ht hz hg0 hlen hn hd hs0
  go_enter Try.func52, Try.ntmps52
  go_wp2_with fail
  refine (guardsHold_ok ra ga sa rc gc sc rs gs ss za zc zs _ (HT.out.below (by repeat (first | assumption | exact Below.refl _ _ | refine grow_drew ?_ | refine grow_alloc ?_ _ | refine grow_trans ?_ (by assumption)))) (HZ.out.below (by repeat (first | assumption | exact Below.refl _ _ | refine grow_drew ?_ | refine grow_alloc ?_ _ | refine grow_trans ?_ (by assumption)))) hzl.out HL.out HG.out).mono ?_
  rintro e w1 ⟨rfl, hb1⟩
  rw [HD.out]
  go_wp2_with fail
  have B1 : Below w.heap.size w w1 := by repeat (first | assumption | exact Below.refl _ _ | refine grow_drew ?_ | refine grow_alloc ?_ _ | refine grow_trans ?_ (by assumption))
  refine (clone_any zs za zc _ h4 (HZ.out.below B1) HN.out).mono ?_
  rintro e w2 ⟨va, vc, rfl, hva, hb2⟩
  have bx0 : w1.cell? ⟨w.heap.size, 0, none⟩ = some (.slice ra rs.length rc) := (hb1.cell (by simp; omega)).trans ((World.cell?_alloc_lt _ _ _ (by simp)).trans (by simp))
  have bx1 : w1.cell? ⟨w.heap.size, 1, none⟩ = some (.slice ga gs.length gc) := (hb1.cell (by simp; omega)).trans ((World.cell?_alloc_lt _ _ _ (by simp)).trans (by simp))
  have bx2 : w1.cell? ⟨w.heap.size, 2, none⟩ = some (.slice sa ss.length sc) := (hb1.cell (by simp; omega)).trans ((World.cell?_alloc_lt _ _ _ (by simp)).trans (by simp))
  have z0 : w1.cell? ⟨w.heap.size + 1, 0, none⟩ = some (.bool false) := (hb1.cell (by simp)).trans (by simp)
  have z1 : w1.cell? ⟨w.heap.size + 1, 1, none⟩ = some (.slice none 0 0) := (hb1.cell (by simp)).trans (by simp)
  have z2 : w1.cell? ⟨w.heap.size + 1, 2, none⟩ = some (.slice none 0 0) := (hb1.cell (by simp)).trans (by simp)
  have f1 : ∀ j, w1.frozen? ⟨w.heap.size + 1, j, none⟩ = false := fun j => (hb1.frozen (p := ⟨w.heap.size + 1, j, none⟩) (by simp)).trans (by simp)
  have hq := World.block_lt_of_cell? w1 _ z0
  have hq2 : w.heap.size + 1 < w2.heap.size := Nat.lt_of_lt_of_le hq hb2.size
  have c0 := fun o => ext_cell (grow_alloc hb2 o) bx0
  have c1 := fun o => ext_cell (grow_alloc hb2 o) bx1
  have c2 := fun o => ext_cell (grow_alloc hb2 o) bx2
  have B2 := grow_trans B1 hb2
  clear bx0 bx1 bx2
  go_wp2_with fail
  refine (setValues_at ra ga sa rc gc sc rs gs ss za zc zs _ (HT.out.below (grow_alloc B2 _)) (HZ.out.below (grow_alloc B2 _)) hzl.out HL.out HS.out h3).mono ?_
  rintro e w3 ⟨ma, mc, rfl, hma, hb3⟩
  have hb13 : Below w1.heap.size w1 w3 := grow_trans (grow_alloc hb2 _) hb3
  have x0 := ext_cell hb13 z0
  have x1 := ext_cell hb13 z1
  have x2 := ext_cell hb13 z2
  have g1 : ∀ j, w3.frozen? ⟨w.heap.size + 1, j, none⟩ = false := fun j => (hb13.frozen (p := ⟨w.heap.size + 1, j, none⟩) hq).trans (f1 j)
  have o0 : w3.cell? ⟨w2.heap.size, 0, none⟩ = some (.bool true) := (hb3.cell (by simp)).trans (by simp)
  have o1 : w3.cell? ⟨w2.heap.size, 1, none⟩ = some (.slice va zs.length vc) := (hb3.cell (by simp)).trans (by simp)
  have o2 : w3.cell? ⟨w2.heap.size, 2, none⟩ = some (.slice none 0 0) := (hb3.cell (by simp)).trans (by simp)
  have og : ∀ j, w3.frozen? ⟨w2.heap.size, j, none⟩ = false := fun j => (hb3.frozen (p := ⟨w2.heap.size, j, none⟩) (by simp)).trans (by simp)
  have hne : ¬ w2.heap.size = w.heap.size + 1 := by omega
  have B3 : Below w.heap.size w w3 := grow_trans (grow_alloc B2 _) hb3
  have HB1 : Hid (w.heap.size ≤ w1.heap.size) := B1.size
  have hs3 : w2.heap.size + 1 ≤ w3.heap.size := by have := hb3.size; simpa using this
  have hva3 : IsAt w1.heap.size w2.heap.size w3 va zs := (hva.below (grow_alloc (Below.refl _ _) _)).below hb3
  have hma3 : IsAt (w2.heap.size + 1) w3.heap.size w3 ma (allS zs ss) := hma.widen (by simp) (Nat.le_refl _)
  have HLW : Hid (w1.heap.size ≤ w2.heap.size) := hb2.size
  clear z0 z1 z2 f1 HT HZ HG HL HN HD HS c0 c1 c2 hb1 hb2 hb3 hb13 hva hma B1 B2
  generalize w2.heap.size = q2 at *
  go_wp2
  refine bodyPost_ret (v := .agg #[.bool true, .slice va zs.length vc, .slice ma (allS zs ss).length mc]) (by simp [results, Try.results52, go_sem, x0, x1, x2]) rfl ⟨va, vc, ma, mc, rfl, ?_, ?_, ?_⟩
  · have h1 := (((hva3.set ⟨q2, 2, none⟩ (.slice ma (allS zs ss).length mc) (.inr (Nat.le_refl _))).set ⟨w.heap.size + 1, 0, none⟩ (.bool true) (.inl hq)).set ⟨w.heap.size + 1, 1, none⟩ (.slice va zs.length vc) (.inl hq)).set ⟨w.heap.size + 1, 2, none⟩ (.slice ma (allS zs ss).length mc) (.inl hq)
    exact h1.widen HB1.out (by simp; omega)
  · have h1 := (((hma3.set ⟨q2, 2, none⟩ (.slice ma (allS zs ss).length mc) (.inl (Nat.lt_succ_self _))).set ⟨w.heap.size + 1, 0, none⟩ (.bool true) (.inl (Nat.lt_succ_of_lt hq2))).set ⟨w.heap.size + 1, 1, none⟩ (.slice va zs.length vc) (.inl (Nat.lt_succ_of_lt hq2))).set ⟨w.heap.size + 1, 2, none⟩ (.slice ma (allS zs ss).length mc) (.inl (Nat.lt_succ_of_lt hq2))
    exact h1.widen (by omega) (by simp)
  · exact grow_set (grow_set (grow_set (grow_set B3 (by simp; omega) _) (by simp) _) (by simp) _) (by simp) _

set_option maxRecDepth 100000 in
theorem outcome_ok (w : World) (ht : IsTx w ra ga sa rs gs ss) (hz : IsInts w za zs) (hn : za = none → zc = 0) (h4 : zs.length ≤ 4) (hlen : zs.length = rs.length) (hg0 : firstNZ (gs.map (gErr rs.length)) = 0) (hs0 : firstNZ (ss.map (sErr rs.length)) = 0) (h3 : ss.length ≤ 3) :
    Calls Try.prog 52 #[.agg #[.slice ra rs.length rc, .slice ga gs.length gc, .slice sa ss.length sc], .slice za zs.length zc] w fun e w' => ∃ va vc ma mc, e = .returned (.agg #[.bool (allG zs gs), .slice va zs.length vc, .slice ma (madeOf zs gs ss).length mc]) ∧ IsAt w.heap.size w'.heap.size w' va zs ∧ IsAt w.heap.size w'.heap.size w' ma (madeOf zs gs ss) ∧ Below w.heap.size w w' := by
  by_cases hd : allG zs gs = true
  · have hm : madeOf zs gs ss = allS zs ss := by unfold madeOf; rw [if_pos hd]
    rw [hm, hd]
    exact outcome_yes ra ga sa rc gc sc rs gs ss za zc zs w ht hz hn h4 hlen hg0 hs0 h3 hd
  · have hm : madeOf zs gs ss = [] := by unfold madeOf; rw [if_neg hd]
    have hd' : allG zs gs = false := by simpa using hd
    rw [hm, hd']
    exact (outcome_no ra ga sa rc gc sc rs gs ss za zc zs w ht hz hn h4 hlen hg0 hd').mono fun _ _ ⟨va, vc, he, h1, h2⟩ => ⟨va, vc, none, 0, he, h1, fun i hi => absurd hi (by simp), h2⟩
end Go.Proofs.Ytcgpkonfneofdaa
