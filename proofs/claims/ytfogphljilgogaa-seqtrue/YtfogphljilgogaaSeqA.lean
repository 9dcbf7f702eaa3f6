/-
  Copies: slices.Clone of guards, sets and numbers, each in memory of its own.
  Conditions: the list can be read and is not too long.
-/
import Derived.Test.YtfogphljilgogaaStoreZ
import Derived.Test.YtfogphljilgogaaTxnO
import Derived.WalkKit
import Derived.WalkSpells
import Derived.WalkLawsBesides
import Derived.ProofKit
import Derived.Deep.RegionHeld3
import Derived.BigQuiet
import Derived.Maps.AppendAt
import Derived.Lib.SliceRun
namespace Go.Proofs.Ytfogphljilgogaa
open Go.RowKit

set_option maxRecDepth 100000 in
theorem Try.info47 : (Try.prog.info? 47).map (fun i => (i.zero, i.size, i.bytes)) = some (some (.agg #[.int .i64 0, .int .i64 0, .int .i64 0, .int .i64 0, .int .i64 0, .int .i64 0]), 6, 48) := by kernel_rfl

def scells (g : St) : List Value := [.int .i64 g.key, .int .i64 g.op, .int .i64 g.ak, .int .i64 g.an, .int .i64 g.bk, .int .i64 g.bn]
def flatS : List St → List Value
  | [] => []
  | g :: gs => scells g ++ flatS gs
theorem flatS_len : ∀ gs : List St, (flatS gs).length = gs.length * 6
  | [] => rfl
  | g :: gs => by simp [flatS, scells, flatS_len gs]; omega
theorem flatS_one : ∀ (gs : List St), ∀ u ∈ flatS gs, u.oneCell' = true
  | [], u, h => by cases h
  | g :: gs, u, h => by
      simp only [flatS, List.mem_append] at h
      rcases h with h | h
      · simp only [scells, List.mem_cons, List.not_mem_nil, or_false] at h
        rcases h with rfl | rfl | rfl | rfl | rfl | rfl <;> rfl
      · exact flatS_one gs u h
theorem flatS_at : ∀ (gs : List St) (i j : Nat), i < gs.length → j < 6 → (flatS gs)[i * 6 + j]? = (scells (gs.getD i s0))[j]?
  | [], i, j, h, _ => absurd h (by simp)
  | g :: gs, 0, j, _, hj => by
      simp only [flatS, Nat.zero_mul, Nat.zero_add]
      rw [List.getElem?_append_left (by simpa [scells] using hj)]
      rfl
  | g :: gs, i + 1, j, h, hj => by
      simp only [flatS]
      rw [List.getElem?_append_right (by simp [scells]; omega)]
      have e : (i + 1) * 6 + j - (scells g).length = i * 6 + j := by simp [scells]; omega
      rw [e, flatS_at gs i j (by simpa using h) hj]
      rfl
theorem news_of_ss {w : World} {ad : Addr} {gs : List St} (h : IsSs w (some ad) gs) : ∀ j u, (flatS gs)[j]? = some u → w.cell? (ad.add j) = some u := by
  intro j u hj
  have hlt : j < gs.length * 6 := by rw [← flatS_len]; exact (List.getElem?_eq_some_iff.1 hj).1
  have hi : j / 6 < gs.length := by omega
  have hr : j % 6 < 6 := Nat.mod_lt _ (by decide)
  have ej : j = j / 6 * 6 + j % 6 := by omega
  obtain ⟨b, off, ha, hb, c0, c1, c2, c3, c4, c5⟩ := h (j / 6) hi
  injection ha with ha
  subst ha
  rw [ej, flatS_at gs _ _ hi hr] at hj
  rw [add_none, ej]
  generalize j / 6 = i at *
  generalize j % 6 = r at *
  match r, hr with
  | 0, _ => simp [scells] at hj; subst hj; simpa using c0
  | 1, _ => simp [scells] at hj; subst hj; simpa [Nat.add_assoc] using c1
  | 2, _ => simp [scells] at hj; subst hj; simpa [Nat.add_assoc] using c2
  | 3, _ => simp [scells] at hj; subst hj; simpa [Nat.add_assoc] using c3
  | 4, _ => simp [scells] at hj; subst hj; simpa [Nat.add_assoc] using c4
  | 5, _ => simp [scells] at hj; subst hj; simpa [Nat.add_assoc] using c5
theorem ss_of_owns {w : World} {base : Nat} {v : Value} {n : Nat} {gs : List St} (h : w.ownsRow base 47 6 v n (flatS gs)) : ∃ a cap, v = .slice a gs.length cap ∧ IsSs w a gs := by
  have hn : gs.length = n := by have := h.1; rw [flatS_len] at this; omega
  rcases h.2 with ⟨rfl, h0⟩ | ⟨g, cap, cur, rfl, hb, hg, hnc, hcm, hcs, htake⟩
  · refine ⟨none, 0, by rw [hn, h0], fun i hi => ?_⟩
    omega
  · refine ⟨some ⟨g, 0, none⟩, cap, by rw [hn], fun i hi => ?_⟩
    have hc := fun (j : Nat) (hj : j < 6) (u : Value) (hu : (scells (gs.getD i s0))[j]? = some u) => h.cells (g := g) rfl (i * 6 + j) u ((flatS_at gs i j hi hj).trans hu)
    simp only [add_none, Nat.zero_add] at hc
    refine ⟨g, 0, rfl, (Array.getElem?_eq_some_iff.1 hg).1, ?_, ?_, ?_, ?_, ?_, ?_⟩
    · simpa using hc 0 (by omega) _ rfl
    · simpa using hc 1 (by omega) _ rfl
    · simpa using hc 2 (by omega) _ rfl
    · simpa using hc 3 (by omega) _ rfl
    · simpa using hc 4 (by omega) _ rfl
    · simpa using hc 5 (by omega) _ rfl

/-- Where a list of one's own lies: nowhere, or in blocks from lo up to hi. -/
def InBlocks (lo hi : Nat) (a : Option Addr) : Prop := ∀ ad, a = some ad → lo ≤ ad.block ∧ ad.block < hi
theorem InBlocks.widen {lo hi lo' hi' : Nat} {a : Option Addr} (h : InBlocks lo hi a) (h1 : lo' ≤ lo) (h2 : hi ≤ hi') : InBlocks lo' hi' a := fun ad e => ⟨Nat.le_trans h1 (h ad e).1, Nat.lt_of_lt_of_le (h ad e).2 h2⟩
theorem owns_in {w : World} {base : Nat} {e : TypeId} {size : Nat} {a : Option Addr} {k c n : Nat} {xs : List Value} (h : w.ownsRow base e size (.slice a k c) n xs) : InBlocks base w.heap.size a ∧ (a = none → c = 0) := by
  rcases h.2 with ⟨he, _⟩ | ⟨g, cap, cur, he, hb, hg, _⟩
  · injection he with e1 e2 e3
    subst e1 e3
    exact ⟨fun ad e => (by cases e), fun _ => rfl⟩
  · injection he with e1 e2 e3
    subst e1
    refine ⟨fun ad e => ?_, fun e => by cases e⟩
    injection e with e
    subst e
    exact ⟨hb, (Array.getElem?_eq_some_iff.1 hg).1⟩

theorem ints_news {w : World} {ad : Addr} {zs : List Int} (h : IsInts w (some ad) zs) : ∀ j u, (zs.map (Value.int .i64))[j]? = some u → w.cell? (ad.add j) = some u := by
  intro j u hj
  have hlt : j < zs.length := by
    have := (List.getElem?_eq_some_iff.1 hj).1
    simpa using this
  obtain ⟨b, off, ha, hb, hc⟩ := h j hlt
  injection ha with ha
  subst ha
  rw [add_none, hc]
  simp [hlt] at hj
  simp [List.getD, hlt, hj]

set_option maxRecDepth 100000 in
theorem cloneInts_at (zs : List Int) (a : Option Addr) (zc : Nat) (w : World) (h4 : zs.length ≤ 100) (hz : IsInts w a zs) :
    Calls Try.prog 75 #[.slice a zs.length zc] w fun e w' => ∃ a' c', e = .returned (.slice a' zs.length c') ∧ IsInts w' a' zs ∧ InBlocks w.heap.size w'.heap.size a' ∧ (a' = none → c' = 0) ∧ Below w.heap.size w w' := by
  have q24 : ∀ (w : World) (a : Option Addr) (n c n' c' : Nat), (binOp .eql 22 (.slice a n c) (.slice none n' c')).run Try.prog w = .ok (.bool a.isNone) w := fun w a n c n' c' => Lib.run_eql_slice_nil w _ _ a n c n' c' Try.underlying22
  obtain ⟨i0, hi, hz0, hz1, hz2⟩ := info_parts Try.info3
  cases a with
  | none =>
    have h0 : zs = [] := by
      cases zs with
      | nil => rfl
      | cons z t => obtain ⟨_, _, h, _⟩ := hz 0 (by simp); cases h
    subst h0
    clear hz h4
    go_enter Try.func75, Try.ntmps75
    go_wp2
    go_ret
    exact ⟨none, 0, rfl, fun i hi => absurd hi (by simp), fun ad e => (by cases e), fun _ => rfl, Below.refl _ _⟩
  | some ad =>
    have hnews : ∀ (o : Obj), ∀ j u, (zs.map (Value.int .i64))[j]? = some u → (w.alloc o).cell? (ad.add j) = some u := fun o => ints_news (hz.below (grow_alloc (Below.refl _ _) o))
    clear hz
    go_enter Try.func75, Try.ntmps75
    go_wp2_with (first
      | (at_builtin; refine wpList_append_own _ rfl _ _ 22 rfl w.heap.size 3 i0 (.int .i64 0) 1 8 Try.underlying22 hi hz0 hz1 hz2 rfl (by decide) _ 0 [] rfl (World.ownsRow_lit w #[] 0 (Nat.le_refl _) (by decide) rfl) ad zs.length zc (zs.map (Value.int .i64)) rfl (by simp) (hnews _) (ints_oneCell .i64 zs) (by unfold maxLen; omega) (by omega) (by simp) ?_; intro v' w1 hown' hgrow _)
      | go_in)
    have RB : Below w.heap.size w w1 := (grow_alloc (Below.refl _ _) _).grown hgrow (by simp) (fun j hj => by have hj' : some w.heap.size = some j := hj; injection hj' with hj'; exact Nat.le_of_eq hj')
    simp only [Nat.zero_add, List.nil_append] at hown'
    clear hgrow hnews
    obtain ⟨a', c', rfl, hz'⟩ := ints_of_owns hown'
    obtain ⟨hin, hnc⟩ := owns_in hown'
    clear hown'
    go_wp2
    go_ret
    exact ⟨a', c', rfl, hz', hin, hnc, RB⟩

set_option maxRecDepth 100000 in
theorem cloneGs_at (zs : List Gd) (a : Option Addr) (zc : Nat) (w : World) (h4 : zs.length ≤ 100) (hz : IsGs w a zs) :
    Calls Try.prog 89 #[.slice a zs.length zc] w fun e w' => ∃ a' c', e = .returned (.slice a' zs.length c') ∧ IsGs w' a' zs ∧ InBlocks w.heap.size w'.heap.size a' ∧ (a' = none → c' = 0) ∧ Below w.heap.size w w' := by
  have q24 : ∀ (w : World) (a : Option Addr) (n c n' c' : Nat), (binOp .eql 23 (.slice a n c) (.slice none n' c')).run Try.prog w = .ok (.bool a.isNone) w := fun w a n c n' c' => Lib.run_eql_slice_nil w _ _ a n c n' c' Try.underlying23
  obtain ⟨i0, hi, hz0, hz1, hz2⟩ := info_parts Try.info113
  cases a with
  | none =>
    have h0 : zs = [] := by
      cases zs with
      | nil => rfl
      | cons z t => obtain ⟨_, _, h, _⟩ := hz 0 (by simp); cases h
    subst h0
    clear hz h4
    go_enter Try.func89, Try.ntmps89
    go_wp2
    go_ret
    exact ⟨none, 0, rfl, fun i hi => absurd hi (by simp), fun ad e => (by cases e), fun _ => rfl, Below.refl _ _⟩
  | some ad =>
    have hnews : ∀ (o : Obj), ∀ j u, (flat zs)[j]? = some u → (w.alloc o).cell? (ad.add j) = some u := fun o => news_of_gs (hz.below (grow_alloc (Below.refl _ _) o))
    clear hz
    go_enter Try.func89, Try.ntmps89
    go_wp2_with (first
      | (at_builtin; refine wpList_append_own _ rfl _ _ 23 rfl w.heap.size 113 i0 (.agg #[.int .i64 0, .int .i64 0, .int .i64 0, .int .i64 0, .int .i64 0]) 5 40 Try.underlying23 hi hz0 hz1 hz2 rfl (by decide) _ 0 [] rfl (World.ownsRow_lit w #[] 0 (Nat.le_refl _) (by decide) rfl) ad zs.length zc (flat zs) rfl (flat_len zs) (hnews _) (flat_one zs) (by unfold maxLen; omega) (by omega) (by simp) ?_; intro v' w1 hown' hgrow _)
      | go_in)
    have RB : Below w.heap.size w w1 := (grow_alloc (Below.refl _ _) _).grown hgrow (by simp) (fun j hj => by have hj' : some w.heap.size = some j := hj; injection hj' with hj'; exact Nat.le_of_eq hj')
    simp only [Nat.zero_add, List.nil_append] at hown'
    clear hgrow hnews
    obtain ⟨a', c', rfl, hz'⟩ := gs_of_owns hown'
    obtain ⟨hin, hnc⟩ := owns_in hown'
    clear hown'
    go_wp2
    go_ret
    exact ⟨a', c', rfl, hz', hin, hnc, RB⟩

set_option maxRecDepth 100000 in
theorem cloneSs_at (zs : List St) (a : Option Addr) (zc : Nat) (w : World) (h4 : zs.length ≤ 100) (hz : IsSs w a zs) :
    Calls Try.prog 90 #[.slice a zs.length zc] w fun e w' => ∃ a' c', e = .returned (.slice a' zs.length c') ∧ IsSs w' a' zs ∧ InBlocks w.heap.size w'.heap.size a' ∧ (a' = none → c' = 0) ∧ Below w.heap.size w w' := by
  have q24 : ∀ (w : World) (a : Option Addr) (n c n' c' : Nat), (binOp .eql 24 (.slice a n c) (.slice none n' c')).run Try.prog w = .ok (.bool a.isNone) w := fun w a n c n' c' => Lib.run_eql_slice_nil w _ _ a n c n' c' Try.underlying24
  obtain ⟨i0, hi, hz0, hz1, hz2⟩ := info_parts Try.info47
  cases a with
  | none =>
    have h0 : zs = [] := by
      cases zs with
      | nil => rfl
      | cons z t => obtain ⟨_, _, h, _⟩ := hz 0 (by simp); cases h
    subst h0
    clear hz h4
    go_enter Try.func90, Try.ntmps90
    go_wp2
    go_ret
    exact ⟨none, 0, rfl, fun i hi => absurd hi (by simp), fun ad e => (by cases e), fun _ => rfl, Below.refl _ _⟩
  | some ad =>
    have hnews : ∀ (o : Obj), ∀ j u, (flatS zs)[j]? = some u → (w.alloc o).cell? (ad.add j) = some u := fun o => news_of_ss (hz.below (grow_alloc (Below.refl _ _) o))
    clear hz
    go_enter Try.func90, Try.ntmps90
    go_wp2_with (first
      | (at_builtin; refine wpList_append_own _ rfl _ _ 24 rfl w.heap.size 47 i0 (.agg #[.int .i64 0, .int .i64 0, .int .i64 0, .int .i64 0, .int .i64 0, .int .i64 0]) 6 48 Try.underlying24 hi hz0 hz1 hz2 rfl (by decide) _ 0 [] rfl (World.ownsRow_lit w #[] 0 (Nat.le_refl _) (by decide) rfl) ad zs.length zc (flatS zs) rfl (flatS_len zs) (hnews _) (flatS_one zs) (by unfold maxLen; omega) (by omega) (by simp) ?_; intro v' w1 hown' hgrow _)
      | go_in)
    have RB : Below w.heap.size w w1 := (grow_alloc (Below.refl _ _) _).grown hgrow (by simp) (fun j hj => by have hj' : some w.heap.size = some j := hj; injection hj' with hj'; exact Nat.le_of_eq hj')
    simp only [Nat.zero_add, List.nil_append] at hown'
    clear hgrow hnews
    obtain ⟨a', c', rfl, hz'⟩ := ss_of_owns hown'
    obtain ⟨hin, hnc⟩ := owns_in hown'
    clear hown'
    go_wp2
    go_ret
    exact ⟨a', c', rfl, hz', hin, hnc, RB⟩
end Go.Proofs.Ytfogphljilgogaa
