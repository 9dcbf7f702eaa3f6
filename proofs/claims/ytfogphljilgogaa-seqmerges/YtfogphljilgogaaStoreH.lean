/-
  store.Apply; and the document's own apply, ApplyOf and SerialOf.
  Conditions: what they are handed can be read.
-/
import Derived.Test.YtfogphljilgogaaStoreG
import Derived.WalkKit
import Derived.WalkSpells
import Derived.WalkLawsBesides
import Derived.Defers
import Derived.Recover
import Derived.ProofKit
import Derived.Deep.RegionHeld
import Derived.Deep.RegionHeld3
import Derived.Deep.DeepCutAuto
import Derived.BigQuiet
import Derived.Laws.AppendOwnNone
namespace Go.Proofs.Ytfogphljilgogaa
open Go.RowKit

theorem isTxs_one (w : World) (x : TxA) (n : Nat) (hn : n = w.heap.size) (hx : IsX w x) : IsTxs (w.alloc (.cells #[.slice x.ra x.rs.length x.rc, .slice x.ga x.gs.length x.gc, .slice x.sa x.ss.length x.sc] 26)) (some ⟨n, 0, none⟩) [x] := by
  subst hn
  intro i hi
  have hi0 : i = 0 := by simpa using hi
  subst hi0
  exact ⟨w.heap.size, 0, rfl, by simp, by simp, by simp, by simp, hx.below (grow_alloc (Below.refl _ _) _)⟩

/-- What Apply tells. -/
def apE (s : List Int) (x : TxA) : Int := serE s [x]
def apEnd (s : List Int) (x : TxA) : List Int := sEnd s [x]
def apD (s : List Int) (x : TxA) : Bool := if serE s [x] = 0 then aDone s x else false
def apV (s : List Int) (x : TxA) : List Int := if serE s [x] = 0 then aVals s x else []

variable (sa : Option Addr) (sc : Nat) (s : List Int)

set_option maxRecDepth 100000 in
set_option maxHeartbeats 1000000 in
theorem storeApply_bad (ra ga ta : Option Addr) (rc gc tc : Nat) (rs : List Int) (gs : List Gd) (ss : List St) (w : World) (hs : IsInts w sa s) (hx : IsX w ⟨ra, ga, ta, rc, gc, tc, rs, gs, ss⟩) (hE : ¬ serE s [⟨ra, ga, ta, rc, gc, tc, rs, gs, ss⟩] = 0) :
    Calls Try.prog 11 #[.slice sa s.length sc, .agg #[.slice ra rs.length rc, .slice ga gs.length gc, .slice ta ss.length tc]] w fun e w' => e = .returned (.tuple #[.slice none 0 0, .agg #[.bool false, .slice none 0 0], .int .i64 (serE s [⟨ra, ga, ta, rc, gc, tc, rs, gs, ss⟩])]) ∧ Below w.heap.size w w' := by
  have H1 : Hid (sEnd s [⟨ra, ga, ta, rc, gc, tc, rs, gs, ss⟩] = []) := if_neg hE
  have H2 : Hid (sRes s [⟨ra, ga, ta, rc, gc, tc, rs, gs, ss⟩] = []) := if_neg hE
  have hb' : (serE s [⟨ra, ga, ta, rc, gc, tc, rs, gs, ss⟩] != 0) = true := by simpa using hE
  have HX : Hid (IsX w ⟨ra, ga, ta, rc, gc, tc, rs, gs, ss⟩) := hx
  have HS : Hid (IsInts w sa s) := hs
  clear hs hx hE
  go_enter Try.func11, Try.ntmps11
  go_wp2_with fail
  have U : Below w.heap.size w ((w.alloc (.cells #[.slice ra rs.length rc, .slice ga gs.length gc, .slice ta ss.length tc] 26)).alloc (.cells #[.bool false, .slice none 0 0] 28)) := grow_alloc (grow_alloc (Below.refl _ _) _) _
  refine (serial_any sa _ sc 1 s [⟨ra, ga, ta, rc, gc, tc, rs, gs, ss⟩] _ (HS.out.below (grow_alloc U _)) (isTxs_one _ _ _ (by simp) (HX.out.below U))).mono ?_
  rintro e w1 ⟨ea, ec, xa, xc, rfl, hso, hb⟩
  rw [H1.out, H2.out]
  have c0 : w1.cell? ⟨w.heap.size + 1, 0, none⟩ = some (.bool false) := ext_cell hb (by rw [World.cell?_alloc_lt _ _ _ (by simp)]; simp)
  have c1 : w1.cell? ⟨w.heap.size + 1, 1, none⟩ = some (.slice none 0 0) := ext_cell hb (by rw [World.cell?_alloc_lt _ _ _ (by simp)]; simp)
  have cf : ∀ j, w1.frozen? ⟨w.heap.size + 1, j, none⟩ = false := fun j => (hb.frozen (p := ⟨w.heap.size + 1, j, none⟩) (by simp)).trans (((grow_alloc (Below.refl _ _) _).frozen (p := ⟨w.heap.size + 1, j, none⟩) (by simp)).trans (by simp))
  have B1 : Hid (Below w.heap.size w w1) := grow_trans (grow_alloc U _) hb
  clear hso hb U
  go_wp2
  refine bodyPost_ret (v := .tuple #[.slice none 0 0, .agg #[.bool false, .slice none 0 0],   .int .i64 (serE s [⟨ra, ga, ta, rc, gc, tc, rs, gs, ss⟩])]) (by simp [results, Try.results11, go_sem, c0, c1]) rfl ⟨rfl, ?_⟩
  exact grow_set (grow_set B1.out (by simp) _) (by simp) _

set_option maxRecDepth 100000 in
set_option maxHeartbeats 1000000 in
theorem storeApply_ok (ra ga ta : Option Addr) (rc gc tc : Nat) (rs : List Int) (gs : List Gd) (ss : List St) (w : World) (hs : IsInts w sa s) (hx : IsX w ⟨ra, ga, ta, rc, gc, tc, rs, gs, ss⟩) (hE : serE s [⟨ra, ga, ta, rc, gc, tc, rs, gs, ss⟩] = 0) :
    Calls Try.prog 11 #[.slice sa s.length sc, .agg #[.slice ra rs.length rc, .slice ga gs.length gc, .slice ta ss.length tc]] w fun e w' => ∃ ea ec va vc, e = .returned (.tuple #[.slice ea (aEnd s ⟨ra, ga, ta, rc, gc, tc, rs, gs, ss⟩).length ec, .agg #[.bool (aDone s ⟨ra, ga, ta, rc, gc, tc, rs, gs, ss⟩), .slice va (aVals s ⟨ra, ga, ta, rc, gc, tc, rs, gs, ss⟩).length vc], .int .i64 0]) ∧ IsInts w' ea (aEnd s ⟨ra, ga, ta, rc, gc, tc, rs, gs, ss⟩) ∧ IsInts w' va (aVals s ⟨ra, ga, ta, rc, gc, tc, rs, gs, ss⟩) ∧ Below w.heap.size w w' := by
  have H1 : Hid (sEnd s [⟨ra, ga, ta, rc, gc, tc, rs, gs, ss⟩] = aEnd s ⟨ra, ga, ta, rc, gc, tc, rs, gs, ss⟩) := if_pos hE
  have H2 : Hid (sRes s [⟨ra, ga, ta, rc, gc, tc, rs, gs, ss⟩] = [(aDone s ⟨ra, ga, ta, rc, gc, tc, rs, gs, ss⟩, aVals s ⟨ra, ga, ta, rc, gc, tc, rs, gs, ss⟩)]) := if_pos hE
  have H3 : Hid (serE s [⟨ra, ga, ta, rc, gc, tc, rs, gs, ss⟩] = 0) := hE
  have HX : Hid (IsX w ⟨ra, ga, ta, rc, gc, tc, rs, gs, ss⟩) := hx
  have HS : Hid (IsInts w sa s) := hs
  clear hs hx hE
  generalize aEnd s ⟨ra, ga, ta, rc, gc, tc, rs, gs, ss⟩ = E1 at *
  generalize aDone s ⟨ra, ga, ta, rc, gc, tc, rs, gs, ss⟩ = D at *
  generalize aVals s ⟨ra, ga, ta, rc, gc, tc, rs, gs, ss⟩ = Z at *
  go_enter Try.func11, Try.ntmps11
  go_wp2_with fail
  have U : Below w.heap.size w ((w.alloc (.cells #[.slice ra rs.length rc, .slice ga gs.length gc, .slice ta ss.length tc] 26)).alloc (.cells #[.bool false, .slice none 0 0] 28)) := grow_alloc (grow_alloc (Below.refl _ _) _) _
  refine (serial_any sa _ sc 1 s [⟨ra, ga, ta, rc, gc, tc, rs, gs, ss⟩] _ (HS.out.below (grow_alloc U _)) (isTxs_one _ _ _ (by simp) (HX.out.below U))).mono ?_
  rintro e w1 ⟨ea, ec, xa, xc, rfl, hso, hb⟩
  rw [H1.out, H2.out, H3.out]
  rw [H1.out, H2.out] at hso
  have hso' : SO (w.heap.size + 3) w1 ea ec xa xc E1 [(D, Z)] := hso.mono (by simp)
  have B1 : Hid (Below w.heap.size w w1) := grow_trans (grow_alloc U _) hb
  have c0 : w1.cell? ⟨w.heap.size + 1, 0, none⟩ = some (.bool false) := ext_cell hb (by rw [World.cell?_alloc_lt _ _ _ (by simp)]; simp)
  have c1 : w1.cell? ⟨w.heap.size + 1, 1, none⟩ = some (.slice none 0 0) := ext_cell hb (by rw [World.cell?_alloc_lt _ _ _ (by simp)]; simp)
  have cf : ∀ j, w1.frozen? ⟨w.heap.size + 1, j, none⟩ = false := fun j => (hb.frozen (p := ⟨w.heap.size + 1, j, none⟩) (by simp)).trans (((grow_alloc (Below.refl _ _) _).frozen (p := ⟨w.heap.size + 1, j, none⟩) (by simp)).trans (by simp))
  obtain ⟨he1, _, rl, hres, htl⟩ := hso'
  obtain ⟨r, rfl, hd⟩ : ∃ r, rl = [r] ∧ r.told = (D, Z) := by
    match rl, htl with
    | [r], h => exact ⟨r, rfl, by simpa using h⟩
  obtain ⟨va, vc, d, vs⟩ := r
  simp only [RsA.told, Prod.mk.injEq] at hd
  obtain ⟨hd1, hd2⟩ := hd
  subst hd1 hd2
  obtain ⟨g', cap', hv, hg1, hg2⟩ := hres.1.form (by simp)
  injection hv with hv1 hv2 hv3
  subst hv1
  have r0 : w1.cell? ⟨g', 0, none⟩ = some (.bool d) := by
    have := hres.1.cells (g := g') rfl 0 (.bool d) rfl
    simpa [add_none] using this
  have r1 : w1.cell? ⟨g', 1, none⟩ = some (.slice va vs.length vc) := by
    have := hres.1.cells (g := g') rfl 1 (.slice va vs.length vc) rfl
    simpa [add_none] using this
  have hva : Hid (IsAt (w.heap.size + 3) w1.heap.size w1 va vs) := (hres.2 _ (List.mem_singleton_self _)).1
  have hea : Hid (IsAt (w.heap.size + 3) w1.heap.size w1 ea E1) := he1
  have hne : g' ≠ w.heap.size + 1 := by omega
  clear hso hb U hres htl he1
  go_wp2
  go_region
  all_goals (
    go_wp2
    refine bodyPost_ret (v := .tuple #[.slice ea E1.length ec, .agg #[.bool d, .slice va vs.length vc], .int .i64 0]) (by simp [results, Try.results11, go_sem, c0, c1]) rfl ⟨ea, ec, va, vc, rfl, ?_, ?_, ?_⟩
    · have h1 := (hea.out.set ⟨w.heap.size + 1, 0, none⟩ (.bool d) (.inl (by simp))).set ⟨w.heap.size + 1, 1, none⟩ (.slice va vs.length vc) (.inl (by simp))
      exact IsAt.ints h1 (by simp)
    · have h1 := (hva.out.set ⟨w.heap.size + 1, 0, none⟩ (.bool d) (.inl (by simp))).set ⟨w.heap.size + 1, 1, none⟩ (.slice va vs.length vc) (.inl (by simp))
      exact IsAt.ints h1 (by simp)
    · exact grow_set (grow_set (grow_drew B1.out) (by simp) _) (by simp) _)
end Go.Proofs.Ytfogphljilgogaa
