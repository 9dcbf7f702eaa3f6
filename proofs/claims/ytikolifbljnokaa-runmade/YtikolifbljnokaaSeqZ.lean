/-
  Copies: slices.Clone of guards, sets and numbers, each in memory of its own.
  Conditions: the list can be read and is not too long.
-/
import Derived.Test.YtikolifbljnokaaStoreZ
import Derived.Test.YtikolifbljnokaaTxnO
import Derived.WalkKit
import Derived.WalkSpells
import Derived.WalkLawsBesides
import Derived.ProofKit
import Derived.Deep.RegionHeld3
import Derived.BigQuiet
import Derived.Maps.AppendAt
import Derived.Lib.SliceRun
import Derived.Deep.RegionHeld
import Derived.Deep.RegionLaw
import Derived.Deep.DeepCutAuto
namespace Go.Proofs.Ytikolifbljnokaa
open Go.RowKit

set_option maxRecDepth 100000 in
theorem Try.info88 : (Try.prog.info? 88).map (fun i => (i.zero, i.size, i.bytes)) = some (some (.agg #[.int .i64 0, .int .i64 0, .int .i64 0, .int .i64 0, .int .i64 0, .int .i64 0]), 6, 48) := by kernel_rfl

def scells (g : St) : List Value := [.int .i64 g.key, .int .i64 g.op, .int .i64 g.ak, .int .i64 g.an, .int .i64 g.bk, .int .i64 g.bn]
def flatS : List St → List Value
  | [] => []
  | g :: gs => scells g ++ flatS gs
theorem flatS_len : ∀ gs : List St, (flatS gs).length = gs.length * 6
  | [] => rfl
  | g :: gs => by simp [flatS, scells, flatS_len gs]; omega
theorem flatS_one : ∀ (gs : List St), ∀ u ∈ flatS gs, u.oneCell' = true
  | [], u, h => by cases h
  | g :: gs, u, h => by
      simp only [flatS, List.mem_append] at h
      rcases h with h | h
      · simp only [scells, List.mem_cons, List.not_mem_nil, or_false] at h
        rcases h with rfl | rfl | rfl | rfl | rfl | rfl <;> rfl
      · exact flatS_one gs u h
theorem flatS_at : ∀ (gs : List St) (i j : Nat), i < gs.length → j < 6 → (flatS gs)[i * 6 + j]? = (scells (gs.getD i s0))[j]?
  | [], i, j, h, _ => absurd h (by simp)
  | g :: gs, 0, j, _, hj => by
      simp only [flatS, Nat.zero_mul, Nat.zero_add]
      rw [List.getElem?_append_left (by simpa [scells] using hj)]
      rfl
  | g :: gs, i + 1, j, h, hj => by
      simp only [flatS]
      rw [List.getElem?_append_right (by simp [scells]; omega)]
      have e : (i + 1) * 6 + j - (scells g).length = i * 6 + j := by simp [scells]; omega
      rw [e, flatS_at gs i j (by simpa using h) hj]
      rfl
theorem news_of_ss {w : World} {ad : Addr} {gs : List St} (h : IsSs w (some ad) gs) : ∀ j u, (flatS gs)[j]? = some u → w.cell? (ad.add j) = some u := by
  intro j u hj
  have hlt : j < gs.length * 6 := by rw [← flatS_len]; exact (List.getElem?_eq_some_iff.1 hj).1
  have hi : j / 6 < gs.length := by omega
  have hr : j % 6 < 6 := Nat.mod_lt _ (by decide)
  have ej : j = j / 6 * 6 + j % 6 := by omega
  obtain ⟨b, off, ha, hb, c0, c1, c2, c3, c4, c5⟩ := h (j / 6) hi
  injection ha with ha
  subst ha
  rw [ej, flatS_at gs _ _ hi hr] at hj
  rw [add_none, ej]
  generalize j / 6 = i at *
  generalize j % 6 = r at *
  match r, hr with
  | 0, _ => simp [scells] at hj; subst hj; simpa using c0
  | 1, _ => simp [scells] at hj; subst hj; simpa [Nat.add_assoc] using c1
  | 2, _ => simp [scells] at hj; subst hj; simpa [Nat.add_assoc] using c2
  | 3, _ => simp [scells] at hj; subst hj; simpa [Nat.add_assoc] using c3
  | 4, _ => simp [scells] at hj; subst hj; simpa [Nat.add_assoc] using c4
  | 5, _ => simp [scells] at hj; subst hj; simpa [Nat.add_assoc] using c5
theorem ss_of_owns {w : World} {base : Nat} {v : Value} {n : Nat} {gs : List St} (h : w.ownsRow base 88 6 v n (flatS gs)) : ∃ a cap, v = .slice a gs.length cap ∧ IsSs w a gs := by
  have hn : gs.length = n := by have := h.1; rw [flatS_len] at this; omega
  rcases h.2 with ⟨rfl, h0⟩ | ⟨g, cap, cur, rfl, hb, hg, hnc, hcm, hcs, htake⟩
  · refine ⟨none, 0, by rw [hn, h0], fun i hi => ?_⟩
    omega
  · refine ⟨some ⟨g, 0, none⟩, cap, by rw [hn], fun i hi => ?_⟩
    have hc := fun (j : Nat) (hj : j < 6) (u : Value) (hu : (scells (gs.getD i s0))[j]? = some u) => h.cells (g := g) rfl (i * 6 + j) u ((flatS_at gs i j hi hj).trans hu)
    simp only [add_none, Nat.zero_add] at hc
    refine ⟨g, 0, rfl, (Array.getElem?_eq_some_iff.1 hg).1, ?_, ?_, ?_, ?_, ?_, ?_⟩
    · simpa using hc 0 (by omega) _ rfl
    · simpa using hc 1 (by omega) _ rfl
    · simpa using hc 2 (by omega) _ rfl
    · simpa using hc 3 (by omega) _ rfl
    · simpa using hc 4 (by omega) _ rfl
    · simpa using hc 5 (by omega) _ rfl

/-- Where a list of one's own lies: nowhere, or in blocks from lo up to hi. -/
def InBlocks (lo hi : Nat) (a : Option Addr) : Prop := ∀ ad, a = some ad → lo ≤ ad.block ∧ ad.block < hi
theorem InBlocks.widen {lo hi lo' hi' : Nat} {a : Option Addr} (h : InBlocks lo hi a) (h1 : lo' ≤ lo) (h2 : hi ≤ hi') : InBlocks lo' hi' a := fun ad e => ⟨Nat.le_trans h1 (h ad e).1, Nat.lt_of_lt_of_le (h ad e).2 h2⟩
theorem owns_in {w : World} {base : Nat} {e : TypeId} {size : Nat} {a : Option Addr} {k c n : Nat} {xs : List Value} (h : w.ownsRow base e size (.slice a k c) n xs) : InBlocks base w.heap.size a ∧ (a = none → c = 0) := by
  rcases h.2 with ⟨he, _⟩ | ⟨g, cap, cur, he, hb, hg, _⟩
  · injection he with e1 e2 e3
    subst e1 e3
    exact ⟨fun ad e => (by cases e), fun _ => rfl⟩
  · injection he with e1 e2 e3
    subst e1
    refine ⟨fun ad e => ?_, fun e => by cases e⟩
    injection e with e
    subst e
    exact ⟨hb, (Array.getElem?_eq_some_iff.1 hg).1⟩

theorem ints_news {w : World} {ad : Addr} {zs : List Int} (h : IsInts w (some ad) zs) : ∀ j u, (zs.map (Value.int .i64))[j]? = some u → w.cell? (ad.add j) = some u := by
  intro j u hj
  have hlt : j < zs.length := by
    have := (List.getElem?_eq_some_iff.1 hj).1
    simpa using this
  obtain ⟨b, off, ha, hb, hc⟩ := h j hlt
  injection ha with ha
  subst ha
  rw [add_none, hc]
  simp [hlt] at hj
  simp [List.getD, hlt, hj]

set_option maxRecDepth 100000 in
theorem cloneInts_at (zs : List Int) (a : Option Addr) (zc : Nat) (w : World) (h4 : zs.length ≤ 100) (hz : IsInts w a zs) :
    Calls Try.prog 78 #[.slice a zs.length zc] w fun e w' => ∃ a' c', e = .returned (.slice a' zs.length c') ∧ IsInts w' a' zs ∧ InBlocks w.heap.size w'.heap.size a' ∧ (a' = none → c' = 0) ∧ Below w.heap.size w w' := by
  have q24 : ∀ (w : World) (a : Option Addr) (n c n' c' : Nat), (binOp .eql 22 (.slice a n c) (.slice none n' c')).run Try.prog w = .ok (.bool a.isNone) w := fun w a n c n' c' => Lib.run_eql_slice_nil w _ _ a n c n' c' Try.underlying22
  obtain ⟨i0, hi, hz0, hz1, hz2⟩ := info_parts Try.info3
  cases a with
  | none =>
    have h0 : zs = [] := by
      cases zs with
      | nil => rfl
      | cons z t => obtain ⟨_, _, h, _⟩ := hz 0 (by simp); cases h
    subst h0
    clear hz h4
    go_enter Try.func78, Try.ntmps78
    go_wp2
    go_ret
    exact ⟨none, 0, rfl, fun i hi => absurd hi (by simp), fun ad e => (by cases e), fun _ => rfl, Below.refl _ _⟩
  | some ad =>
    have hnews : ∀ (o : Obj), ∀ j u, (zs.map (Value.int .i64))[j]? = some u → (w.alloc o).cell? (ad.add j) = some u := fun o => ints_news (hz.below (grow_alloc (Below.refl _ _) o))
    clear hz
    go_enter Try.func78, Try.ntmps78
    go_wp2_with (first
      | (at_builtin; refine wpList_append_own _ rfl _ _ 22 rfl w.heap.size 3 i0 (.int .i64 0) 1 8 Try.underlying22 hi hz0 hz1 hz2 rfl (by decide) _ 0 [] rfl (World.ownsRow_lit w #[] 0 (Nat.le_refl _) (by decide) rfl) ad zs.length zc (zs.map (Value.int .i64)) rfl (by simp) (hnews _) (ints_oneCell .i64 zs) (by unfold maxLen; omega) (by omega) (by simp) ?_; intro v' w1 hown' hgrow _)
      | go_in)
    have RB : Below w.heap.size w w1 := (grow_alloc (Below.refl _ _) _).grown hgrow (by simp) (fun j hj => by have hj' : some w.heap.size = some j := hj; injection hj' with hj'; exact Nat.le_of_eq hj')
    simp only [Nat.zero_add, List.nil_append] at hown'
    clear hgrow hnews
    obtain ⟨a', c', rfl, hz'⟩ := ints_of_owns hown'
    obtain ⟨hin, hnc⟩ := owns_in hown'
    clear hown'
    go_wp2
    go_ret
    exact ⟨a', c', rfl, hz', hin, hnc, RB⟩

set_option maxRecDepth 100000 in
theorem cloneGs_at (zs : List Gd) (a : Option Addr) (zc : Nat) (w : World) (h4 : zs.length ≤ 100) (hz : IsGs w a zs) :
    Calls Try.prog 79 #[.slice a zs.length zc] w fun e w' => ∃ a' c', e = .returned (.slice a' zs.length c') ∧ IsGs w' a' zs ∧ InBlocks w.heap.size w'.heap.size a' ∧ (a' = none → c' = 0) ∧ Below w.heap.size w w' := by
  have q24 : ∀ (w : World) (a : Option Addr) (n c n' c' : Nat), (binOp .eql 23 (.slice a n c) (.slice none n' c')).run Try.prog w = .ok (.bool a.isNone) w := fun w a n c n' c' => Lib.run_eql_slice_nil w _ _ a n c n' c' Try.underlying23
  obtain ⟨i0, hi, hz0, hz1, hz2⟩ := info_parts Try.info90
  cases a with
  | none =>
    have h0 : zs = [] := by
      cases zs with
      | nil => rfl
      | cons z t => obtain ⟨_, _, h, _⟩ := hz 0 (by simp); cases h
    subst h0
    clear hz h4
    go_enter Try.func79, Try.ntmps79
    go_wp2
    go_ret
    exact ⟨none, 0, rfl, fun i hi => absurd hi (by simp), fun ad e => (by cases e), fun _ => rfl, Below.refl _ _⟩
  | some ad =>
    have hnews : ∀ (o : Obj), ∀ j u, (flat zs)[j]? = some u → (w.alloc o).cell? (ad.add j) = some u := fun o => news_of_gs (hz.below (grow_alloc (Below.refl _ _) o))
    clear hz
    go_enter Try.func79, Try.ntmps79
    go_wp2_with (first
      | (at_builtin; refine wpList_append_own _ rfl _ _ 23 rfl w.heap.size 90 i0 (.agg #[.int .i64 0, .int .i64 0, .int .i64 0, .int .i64 0, .int .i64 0]) 5 40 Try.underlying23 hi hz0 hz1 hz2 rfl (by decide) _ 0 [] rfl (World.ownsRow_lit w #[] 0 (Nat.le_refl _) (by decide) rfl) ad zs.length zc (flat zs) rfl (flat_len zs) (hnews _) (flat_one zs) (by unfold maxLen; omega) (by omega) (by simp) ?_; intro v' w1 hown' hgrow _)
      | go_in)
    have RB : Below w.heap.size w w1 := (grow_alloc (Below.refl _ _) _).grown hgrow (by simp) (fun j hj => by have hj' : some w.heap.size = some j := hj; injection hj' with hj'; exact Nat.le_of_eq hj')
    simp only [Nat.zero_add, List.nil_append] at hown'
    clear hgrow hnews
    obtain ⟨a', c', rfl, hz'⟩ := gs_of_owns hown'
    obtain ⟨hin, hnc⟩ := owns_in hown'
    clear hown'
    go_wp2
    go_ret
    exact ⟨a', c', rfl, hz', hin, hnc, RB⟩

set_option maxRecDepth 100000 in
theorem cloneSs_at (zs : List St) (a : Option Addr) (zc : Nat) (w : World) (h4 : zs.length ≤ 100) (hz : IsSs w a zs) :
    Calls Try.prog 80 #[.slice a zs.length zc] w fun e w' => ∃ a' c', e = .returned (.slice a' zs.length c') ∧ IsSs w' a' zs ∧ InBlocks w.heap.size w'.heap.size a' ∧ (a' = none → c' = 0) ∧ Below w.heap.size w w' := by
  have q24 : ∀ (w : World) (a : Option Addr) (n c n' c' : Nat), (binOp .eql 24 (.slice a n c) (.slice none n' c')).run Try.prog w = .ok (.bool a.isNone) w := fun w a n c n' c' => Lib.run_eql_slice_nil w _ _ a n c n' c' Try.underlying24
  obtain ⟨i0, hi, hz0, hz1, hz2⟩ := info_parts Try.info88
  cases a with
  | none =>
    have h0 : zs = [] := by
      cases zs with
      | nil => rfl
      | cons z t => obtain ⟨_, _, h, _⟩ := hz 0 (by simp); cases h
    subst h0
    clear hz h4
    go_enter Try.func80, Try.ntmps80
    go_wp2
    go_ret
    exact ⟨none, 0, rfl, fun i hi => absurd hi (by simp), fun ad e => (by cases e), fun _ => rfl, Below.refl _ _⟩
  | some ad =>
    have hnews : ∀ (o : Obj), ∀ j u, (flatS zs)[j]? = some u → (w.alloc o).cell? (ad.add j) = some u := fun o => news_of_ss (hz.below (grow_alloc (Below.refl _ _) o))
    clear hz
    go_enter Try.func80, Try.ntmps80
    go_wp2_with (first
      | (at_builtin; refine wpList_append_own _ rfl _ _ 24 rfl w.heap.size 88 i0 (.agg #[.int .i64 0, .int .i64 0, .int .i64 0, .int .i64 0, .int .i64 0, .int .i64 0]) 6 48 Try.underlying24 hi hz0 hz1 hz2 rfl (by decide) _ 0 [] rfl (World.ownsRow_lit w #[] 0 (Nat.le_refl _) (by decide) rfl) ad zs.length zc (flatS zs) rfl (flatS_len zs) (hnews _) (flatS_one zs) (by unfold maxLen; omega) (by omega) (by simp) ?_; intro v' w1 hown' hgrow _)
      | go_in)
    have RB : Below w.heap.size w w1 := (grow_alloc (Below.refl _ _) _).grown hgrow (by simp) (fun j hj => by have hj' : some w.heap.size = some j := hj; injection hj' with hj'; exact Nat.le_of_eq hj')
    simp only [Nat.zero_add, List.nil_append] at hown'
    clear hgrow hnews
    obtain ⟨a', c', rfl, hz'⟩ := ss_of_owns hown'
    obtain ⟨hin, hnc⟩ := owns_in hown'
    clear hown'
    go_wp2
    go_ret
    exact ⟨a', c', rfl, hz', hin, hnc, RB⟩
end Go.Proofs.Ytikolifbljnokaa

/-
  Transactions in a row of one's own; order.Copy: a copy in memory of its own.
  Conditions: the transactions can be read and are right.
-/
namespace Go.Proofs.Ytikolifbljnokaa
open Go.RowKit

/-- What a transaction says, wherever its lists lie. -/
abbrev Core := List Int × List Gd × List St
def TxA.core (x : TxA) : Core := (x.rs, x.gs, x.ss)
/-- All of a transaction's lists lie in these blocks, none of them in this one. -/
structure XIn (lo hi : Nat) (v : Value) (x : TxA) : Prop where
  r : InBlocks lo hi x.ra
  g : InBlocks lo hi x.ga
  s : InBlocks lo hi x.sa
  nr : ∀ ad, x.ra = some ad → v.ownBlock ≠ some ad.block
  ng : ∀ ad, x.ga = some ad → v.ownBlock ≠ some ad.block
  ns : ∀ ad, x.sa = some ad → v.ownBlock ≠ some ad.block

/-- Transactions in a row of one's own from block C on, their lists too, and none of these in the row's own block. -/
def TxRow (C : Nat) (w : World) (v : Value) (l : List TxA) : Prop :=
  w.ownsRow C 26 3 v l.length (flatX l) ∧ ∀ x ∈ l, IsX w x ∧ XIn C w.heap.size v x

theorem txRow_nil (C : Nat) (w : World) : TxRow C w (.slice none 0 0) [] := ⟨World.ownsRow_nil _ _ _ _, fun r hr => by cases hr⟩

theorem IsInts.keptBy {w w' : World} {row : Option Nat} {a : Option Addr} {zs : List Int} (h : IsInts w a zs) (hg : w.grownBy w' row) (hr : ∀ ad, a = some ad → row ≠ some ad.block) : IsInts w' a zs := fun i hi => by
  obtain ⟨b, off, ha, hlt, hc⟩ := h i hi
  exact ⟨b, off, ha, Nat.lt_of_lt_of_le hlt hg.size, hg.cell hc (fun e => hr _ ha e.symm)⟩
theorem IsGs.keptBy {w w' : World} {row : Option Nat} {a : Option Addr} {zs : List Gd} (h : IsGs w a zs) (hg : w.grownBy w' row) (hr : ∀ ad, a = some ad → row ≠ some ad.block) : IsGs w' a zs := fun i hi => by
  obtain ⟨b, off, ha, hlt, c0, c1, c2, c3, c4⟩ := h i hi
  have hn : some b ≠ row := fun e => hr _ ha e.symm
  exact ⟨b, off, ha, Nat.lt_of_lt_of_le hlt hg.size, hg.cell c0 hn, hg.cell c1 hn, hg.cell c2 hn, hg.cell c3 hn, hg.cell c4 hn⟩
theorem IsSs.keptBy {w w' : World} {row : Option Nat} {a : Option Addr} {zs : List St} (h : IsSs w a zs) (hg : w.grownBy w' row) (hr : ∀ ad, a = some ad → row ≠ some ad.block) : IsSs w' a zs := fun i hi => by
  obtain ⟨b, off, ha, hlt, c0, c1, c2, c3, c4, c5⟩ := h i hi
  have hn : some b ≠ row := fun e => hr _ ha e.symm
  exact ⟨b, off, ha, Nat.lt_of_lt_of_le hlt hg.size, hg.cell c0 hn, hg.cell c1 hn, hg.cell c2 hn, hg.cell c3 hn, hg.cell c4 hn, hg.cell c5 hn⟩
theorem IsX.keptBy {w w' : World} {row : Option Nat} {x : TxA} (h : IsX w x) (hg : w.grownBy w' row) (h1 : ∀ ad, x.ra = some ad → row ≠ some ad.block) (h2 : ∀ ad, x.ga = some ad → row ≠ some ad.block) (h3 : ∀ ad, x.sa = some ad → row ≠ some ad.block) : IsX w' x :=
  ⟨⟨h.t.r.keptBy hg h1, h.t.g.keptBy hg h2, h.t.s.keptBy hg h3, h.t.lr, h.t.lg, h.t.ls⟩, h.rn, h.gn, h.sn⟩

theorem XIn.widen {lo hi lo' hi' : Nat} {v : Value} {x : TxA} (h : XIn lo hi v x) (h1 : lo' ≤ lo) (h2 : hi ≤ hi') : XIn lo' hi' v x := ⟨h.r.widen h1 h2, h.g.widen h1 h2, h.s.widen h1 h2, h.nr, h.ng, h.ns⟩
theorem XIn.to {lo hi : Nat} {v v' : Value} {x : TxA} (h : XIn lo hi v x) (hv : v'.ownBlock = v.ownBlock ∨ v'.ownBlock = some hi) : XIn lo hi v' x := by
  rcases hv with e | e
  · exact ⟨h.r, h.g, h.s, by rw [e]; exact h.nr, by rw [e]; exact h.ng, by rw [e]; exact h.ns⟩
  · refine ⟨h.r, h.g, h.s, fun ad ha q => ?_, fun ad ha q => ?_, fun ad ha q => ?_⟩
    · rw [e] at q; injection q with q; have := (h.r ad ha).2; omega
    · rw [e] at q; injection q with q; have := (h.g ad ha).2; omega
    · rw [e] at q; injection q with q; have := (h.s ad ha).2; omega

theorem TxRow.kept {C : Nat} {w w' : World} {v : Value} {l : List TxA} {row : Option Nat} (h : TxRow C w v l) (hg : w.grownBy w' row) (hr : ∀ j, row = some j → j < C) : TxRow C w' v l := by
  refine ⟨h.1.kept hg ?_, fun x hm => ?_⟩
  · cases ho : v.ownBlock with
    | none => exact .inl rfl
    | some j => exact .inr (fun e => by have := (h.1.lt j ho).1; have := hr j e.symm; omega)
  · obtain ⟨h1, h2⟩ := h.2 x hm
    exact ⟨h1.keptBy hg (fun ad e q => by have := (h2.r ad e).1; have := hr _ q; omega) (fun ad e q => by have := (h2.g ad e).1; have := hr _ q; omega) (fun ad e q => by have := (h2.s ad e).1; have := hr _ q; omega), h2.widen (Nat.le_refl _) hg.size⟩
theorem TxRow.below {C : Nat} {w w' : World} {v : Value} {l : List TxA} (h : TxRow C w v l) (hb : Below w.heap.size w w') : TxRow C w' v l := h.kept (grownBy_of_below hb none) (fun j e => by cases e)
theorem TxRow.low {C C' : Nat} {w : World} {v : Value} {l : List TxA} (h : TxRow C w v l) (hc : C' ≤ C) : TxRow C' w v l := ⟨own_mono h.1 hc, fun x hx => ⟨(h.2 x hx).1, (h.2 x hx).2.widen hc (Nat.le_refl _)⟩⟩
theorem TxRow.push {C : Nat} {w w' : World} {v v' : Value} {l m : List TxA} (h : TxRow C w v l) (ho : w'.ownsRow C 26 3 v' (l.length + m.length) (flatX l ++ flatX m)) (hg : w.grownBy w' v.ownBlock) (hv : v'.ownBlock = v.ownBlock ∨ v'.ownBlock = some w.heap.size) (hm : ∀ x ∈ m, IsX w x ∧ XIn C w.heap.size v x) : TxRow C w' v' (l ++ m) := by
  refine ⟨by rw [flatX_app, List.length_append]; exact ho, fun x hx => ?_⟩
  have key : IsX w x ∧ XIn C w.heap.size v x := by
    rcases List.mem_append.1 hx with hx | hx
    · exact h.2 x hx
    · exact hm x hx
  exact ⟨key.1.keptBy hg key.2.nr key.2.ng key.2.ns, (key.2.to hv).widen (Nat.le_refl _) hg.size⟩
theorem TxRow.txs {C : Nat} {w : World} {v : Value} {l : List TxA} (h : TxRow C w v l) : ∃ a cap, v = .slice a l.length cap ∧ IsTxs w a l := txs_of_owns h.1 (fun x hx => (h.2 x hx).1)

/-- An append of transactions to transactions that the call owns, at a step of a region that draws its order. -/
theorem step_append_row {w : World} {ops : Array Oper} {o : Oper} {a : Act} {K : Act → World → Prop} {Q : Exit → Act → World → Prop} {E : Prop} (hgd : o.guard = none) (s x : Operand)
    (ho : o.op = .call { callee := .builtin .append, args := #[s, x], argTypes := #[27, 27] })
    (C : Nat) (v : Value) (l : List TxA) (hs : a.eval s = v) (hown : TxRow C w v l)
    (ad : Addr) (m : List TxA) (n c : Nat) (hx : a.eval x = .slice (some ad) n c) (hn : m.length = n) (hnews : Lies w ad (flatX m)) (hm : ∀ x ∈ m, IsX w x ∧ XIn C w.heap.size v x)
    (hsm : l.length + m.length ≤ 100) (hbase : C ≤ w.heap.size)
    (h : ∀ v' w', TxRow C w' v' (l ++ m) → w.grownBy w' v.ownBlock → (∀ j, v.ownBlock = some j → C ≤ j) → K (a.put o.dst v') w') :
    if Region.wanted o (yielded ops a.tmps) = true then Oper.wp Try.prog o a w K Q else E := by
  obtain ⟨i, hi, hz, hsz, hby⟩ := info_parts Try.info26
  have hw : Region.wanted o (yielded ops a.tmps) = true := by simp [Region.wanted, hgd]
  rw [if_pos hw]
  subst hn
  obtain ⟨v', w', hrun, h2, h3, _, h5⟩ := run_append_own_at (P := Try.prog) w C 27 o.type 26 i _ 3 72 Try.underlying27 hi hz hsz hby rfl (by decide) v l.length (flatX l) hown.1 ad m.length c (flatX m) (flatX_len m) hnews (flatX_one m) (by unfold maxLen; omega) (by omega) hbase
  unfold Oper.wp execOp
  simp only [ho, resolve, invoke, builtin, Sem.run_bind, Sem.run_pure, Result.andThen_ok, List.map_toArray, List.map_cons, List.map_nil, hs, hx, hrun]
  exact h v' w' (hown.push h2 h3 h5 hm) h3 (fun j hj => (hown.1.lt j hj).1)

theorem lies_one (w : World) (x : TxA) (n : Nat) (hn : n = w.heap.size) : Lies (w.alloc (.cells #[.slice x.ra x.rs.length x.rc, .slice x.ga x.gs.length x.gc, .slice x.sa x.ss.length x.sc] 26)) ⟨n, 0, none⟩ (flatX [x]) := by
  subst hn
  intro j u hj
  rw [add_none]
  match j, hj with
  | 0, hj => simp [flatX, xcells] at hj; subst hj; simp
  | 1, hj => simp [flatX, xcells] at hj; subst hj; simp
  | 2, hj => simp [flatX, xcells] at hj; subst hj; simp
  | j + 3, hj => simp [flatX, xcells] at hj

theorem copy_in {C : Nat} {v : Value} {Va wa wb wc w' : World} {rs : List Int} {gs : List Gd} {ss : List St} {a1 a2 a3 : Option Addr} {c1 c2 c3 : Nat} (h1 : IsInts wa a1 rs) (i1 : InBlocks Va.heap.size wa.heap.size a1) (n1 : a1 = none → c1 = 0) (hb2 : Below wa.heap.size wa wb) (h2 : IsGs wb a2 gs) (i2 : InBlocks wa.heap.size wb.heap.size a2) (n2 : a2 = none → c2 = 0) (hb3 : Below wb.heap.size wb wc) (h3 : IsSs wc a3 ss) (i3 : InBlocks wb.heap.size wc.heap.size a3) (n3 : a3 = none → c3 = 0) (hb4 : Below wc.heap.size wc w') (hb1 : Va.heap.size ≤ wa.heap.size) (hv : ∀ j, v.ownBlock = some j → j < Va.heap.size) (hC : C ≤ Va.heap.size) (lr : rs.length ≤ maxLen) (lg : gs.length ≤ maxLen) (ls : ss.length ≤ maxLen) :
    ∀ x ∈ [(⟨a1, a2, a3, c1, c2, c3, rs, gs, ss⟩ : TxA)], IsX w' x ∧ XIn C w'.heap.size v x := by
  intro x hx
  simp only [List.mem_singleton] at hx
  subst hx
  have s2 := hb2.size
  have s3 := hb3.size
  have s4 := hb4.size
  refine ⟨⟨⟨(h1.below (grow_trans hb2 hb3)).below hb4, (h2.below hb3).below hb4, h3.below hb4, lr, lg, ls⟩, n1, n2, n3⟩, ⟨i1.widen hC (by omega), i2.widen (by omega) (by omega), i3.widen (by omega) (by omega), fun ad e q => ?_, fun ad e q => ?_, fun ad e q => ?_⟩⟩
  · have := hv _ q; have := (i1 ad e).1; omega
  · have := hv _ q; have := (i2 ad e).1; omega
  · have := hv _ q; have := (i3 ad e).1; omega

theorem core_take (l : List TxA) (k : Nat) (h : k < l.length) : (l.take (k + 1)).map TxA.core = (l.take k).map TxA.core ++ [(l.getD k x0).core] := by
  rw [List.take_succ_eq_append_getElem h, List.map_append]
  simp [List.getD, h]

theorem gb_drew {V w : World} {r : Option Nat} (h : V.grownBy w r) : V.grownBy w.drew r := ⟨h.os, h.tape, h.output, h.size, h.block⟩
theorem gb_alloc {V w : World} {r : Option Nat} (h : V.grownBy w r) (o : Obj) : V.grownBy (w.alloc o) r := h.trans (World.grownBy_alloc w o r)
theorem gb_below {V w w' : World} {r : Option Nat} (h : V.grownBy w r) (hb : Below w.heap.size w w') : V.grownBy w' r := h.trans (grownBy_of_below hb r)
theorem gb_trans {V w w' : World} {r : Option Nat} (h : V.grownBy w r) (hb : w.grownBy w' r) : V.grownBy w' r := h.trans hb

set_option maxRecDepth 100000 in
set_option maxHeartbeats 2000000 in
theorem copy_any (la : Option Addr) (lc : Nat) (l : List TxA) (w : World) (hl : IsTxs w la l) (hE : chkL l = 0) :
    Calls Try.prog 47 #[.slice la l.length lc] w fun e w' => ∃ v cl, e = .returned v ∧ TxRow w.heap.size w' v cl ∧ cl.map TxA.core = l.map TxA.core ∧ Below w.heap.size w w' := by
  have hl8 := chkL_len hE
  have HL : Hid (IsTxs w la l) := hl
  have HE : Hid (chkL l = 0) := hE
  clear hl hE
  go_enter Try.func47, Try.ntmps47
  go_wp2
  go_loopw [3, 5, 8] (fun v _ i wr => ∃ (k : Nat) (cl : List TxA), k ≤ l.length ∧ i = .int .i64 k ∧ Hid (TxRow w.heap.size wr v cl) ∧ Hid (cl.map TxA.core = (l.take k).map TxA.core) ∧ Hid (Below w.heap.size w wr)) (fun _ _ i _ => l.length - (intOf i).toNat)
  case atStart => exact ⟨0, [], Nat.zero_le _, rfl, txRow_nil _ _, rfl, Below.refl _ _⟩
  case round =>
    obtain ⟨k, cl, hk, rfl, hrow, hcore, hB⟩ := hrel
    by_cases hlt : k < l.length
    · obtain ⟨b, off, rfl, hb, c0, c1, c2, hx⟩ := HL.out k hlt
      have d0 := ext_cell hB.out c0
      have d1 := ext_cell hB.out c1
      have d2 := ext_cell hB.out c2
      have HX : Hid (IsX w (l.getD k x0)) := hx
      have HC : Hid (chkX (l.getD k x0) = 0) := chkL_at HE.out k hlt
      have HT : Hid ((l.take (k + 1)).map TxA.core = (l.take k).map TxA.core ++ [(l.getD k x0).core]) := core_take l k hlt
      have hcl : cl.length = k := by
        have h := congrArg List.length hcore.out
        rw [List.length_map, List.length_map, List.length_take] at h
        omega
      clear c0 c1 c2 hx
      generalize l.getD k x0 = x at *
      obtain ⟨ra, ga, sa, rc, gc, sc, rs, gs, ss⟩ := x
      simp only at d0 d1 d2
      have hmany : manyE rs.length gs.length ss.length = 0 := by
        by_cases hm : manyE rs.length gs.length ss.length = 0
        · exact hm
        · have h1 := chk_many rs gs ss hm
          have h2 : chkTx rs gs ss = 0 := HC.out
          omega
      obtain ⟨m1, m2, m3, _⟩ := many_small _ _ _ hmany
      have hvl0 : ∀ j, u3.ownBlock = some j → j < wr.heap.size := fun j hj => (hrow.out.1.lt j hj).2
      clear hmany
      go_upto_region 5 with fail
      have UV : Below wr.heap.size wr (wr.alloc (.cells #[.slice ra rs.length rc, .slice ga gs.length gc, .slice sa ss.length sc] 26)) := grow_alloc (Below.refl _ _) _
      have y0 : (wr.alloc (.cells #[.slice ra rs.length rc, .slice ga gs.length gc, .slice sa ss.length sc] 26)).cell? ⟨wr.heap.size, 0, none⟩ = some (.slice ra rs.length rc) := by simp
      have y1 : (wr.alloc (.cells #[.slice ra rs.length rc, .slice ga gs.length gc, .slice sa ss.length sc] 26)).cell? ⟨wr.heap.size, 1, none⟩ = some (.slice ga gs.length gc) := by simp
      have y2 : (wr.alloc (.cells #[.slice ra rs.length rc, .slice ga gs.length gc, .slice sa ss.length sc] 26)).cell? ⟨wr.heap.size, 2, none⟩ = some (.slice sa ss.length sc) := by simp
      have hrV : Hid (TxRow w.heap.size (wr.alloc (.cells #[.slice ra rs.length rc, .slice ga gs.length gc, .slice sa ss.length sc] 26)) u3 cl) := hrow.out.below UV
      have BV : Hid (Below w.heap.size w (wr.alloc (.cells #[.slice ra rs.length rc, .slice ga gs.length gc, .slice sa ss.length sc] 26))) := grow_trans hB.out UV
      have hvl : Hid (∀ j, u3.ownBlock = some j → j < (wr.alloc (.cells #[.slice ra rs.length rc, .slice ga gs.length gc, .slice sa ss.length sc] 26)).heap.size) := fun j hj => Nat.lt_of_lt_of_le (hvl0 j hj) UV.size
      have hCV : Hid (w.heap.size ≤ (wr.alloc (.cells #[.slice ra rs.length rc, .slice ga gs.length gc, .slice sa ss.length sc] 26)).heap.size) := BV.out.size
      have hvX : Hid (∀ j, u3.ownBlock = some j → j < wr.heap.size) := hvl0
      clear UV d0 d1 d2 hrow hB hvl0
      generalize (wr.alloc (.cells #[.slice ra rs.length rc, .slice ga gs.length gc, .slice sa ss.length sc] 26)) = V at *
      generalize wr.heap.size = X at *
      have hXn : u3.ownBlock ≠ some X := fun e => by have := hvX.out X e; omega
      have KS : Hid (∀ w', V.grownBy w' u3.ownBlock → w'.cell? ⟨X, 0, none⟩ = some (.slice ra rs.length rc) ∧ w'.cell? ⟨X, 1, none⟩ = some (.slice ga gs.length gc) ∧ w'.cell? ⟨X, 2, none⟩ = some (.slice sa ss.length sc) ∧ Hid (V.grownBy w' u3.ownBlock)) := fun w' h => ⟨h.cell y0 (fun e => hXn e.symm), h.cell y1 (fun e => hXn e.symm), h.cell y2 (fun e => hXn e.symm), h⟩
      clear y0 y1 y2
      have MM : Hid (rs.length ≤ maxLen ∧ gs.length ≤ maxLen ∧ ss.length ≤ maxLen) := ⟨HX.out.t.lr, HX.out.t.lg, HX.out.t.ls⟩
      have hlow : Hid (∀ j, u3.ownBlock = some j → w.heap.size ≤ j) := fun j hj => (hrV.out.1.lt j hj).1
      have BG : Hid (∀ w', V.grownBy w' u3.ownBlock → Below w.heap.size w w') := fun w' h => BV.out.trans (Below.grown (Below.refl w.heap.size V) h hCV.out (fun j hj => hlow.out j hj))
      have C1 : Hid (∀ w', V.grownBy w' u3.ownBlock → Calls Try.prog 78 #[.slice ra rs.length rc] w' fun e w'' => ∃ a' c', e = .returned (.slice a' rs.length c') ∧ IsInts w'' a' rs ∧ InBlocks w'.heap.size w''.heap.size a' ∧ (a' = none → c' = 0) ∧ Below w'.heap.size w' w'') := fun w' h => cloneInts_at rs ra rc w' (by omega) (HX.out.t.r.below (BG.out w' h))
      have C2 : Hid (∀ w', V.grownBy w' u3.ownBlock → Calls Try.prog 79 #[.slice ga gs.length gc] w' fun e w'' => ∃ a' c', e = .returned (.slice a' gs.length c') ∧ IsGs w'' a' gs ∧ InBlocks w'.heap.size w''.heap.size a' ∧ (a' = none → c' = 0) ∧ Below w'.heap.size w' w'') := fun w' h => cloneGs_at gs ga gc w' (by omega) (HX.out.t.g.below (BG.out w' h))
      have C3 : Hid (∀ w', V.grownBy w' u3.ownBlock → Calls Try.prog 80 #[.slice sa ss.length sc] w' fun e w'' => ∃ a' c', e = .returned (.slice a' ss.length c') ∧ IsSs w'' a' ss ∧ InBlocks w'.heap.size w''.heap.size a' ∧ (a' = none → c' = 0) ∧ Below w'.heap.size w' w'') := fun w' h => cloneSs_at ss sa sc w' (by omega) (HX.out.t.s.below (BG.out w' h))
      have hsm : Hid (∀ x : TxA, cl.length + [x].length ≤ 100) := fun x => by simp; omega
      go_region_held3 (fun w' => w'.cell? ⟨X, 0, none⟩ = some (.slice ra rs.length rc) ∧ w'.cell? ⟨X, 1, none⟩ = some (.slice ga gs.length gc) ∧ w'.cell? ⟨X, 2, none⟩ = some (.slice sa ss.length sc) ∧ Hid (V.grownBy w' u3.ownBlock)) ((refine KS.out _ ?_; go_split_ands; repeat (first | assumption | exact World.grownBy.refl _ _ | exact Hid.out (by assumption) | refine gb_drew ?_ | refine gb_alloc ?_ _ | refine gb_below ?_ (by assumption) | refine gb_trans ?_ (by assumption))))
        (first
          | (go_at_call 78; refine (C1.out _ ?_).mono ?_; (go_split_ands; exact Hid.out (by assumption)); rintro e wa ⟨a1, c1, rfl, h1, i1, n1, hb1⟩)
          | (go_at_call 79; refine (C2.out _ ?_).mono ?_; (go_split_ands; exact Hid.out (by assumption)); rintro e wb ⟨a2, c2, rfl, h2, i2, n2, hb2⟩)
          | (go_at_call 80; refine (C3.out _ ?_).mono ?_; (go_split_ands; exact Hid.out (by assumption)); rintro e wc ⟨a3, c3, rfl, h3, i3, n3, hb3⟩)
          | (refine step_append_row (by rfl) _ _ (by rfl) w.heap.size u3 cl (by rfl) ?_ ⟨_, 0, none⟩ [⟨a1, a2, a3, c1, c2, c3, rs, gs, ss⟩] 1 1 (by rfl) rfl (lies_one wc ⟨a1, a2, a3, c1, c2, c3, rs, gs, ss⟩ _ rfl) (copy_in h1 i1 n1 hb2 h2 i2 n2 hb3 h3 i3 n3 (grow_alloc (Below.refl _ _) _) hb1.size hvl.out hCV.out MM.out.1 MM.out.2.1 MM.out.2.2) (hsm.out _) ?_ ?_; (exact hrV.out.below (grow_alloc (grow_trans (grow_trans (grow_drew (Below.refl _ _)) hb1) (grow_trans hb2 hb3)) _)); (exact Nat.le_trans hCV.out (Below.size (grow_alloc (grow_trans (grow_trans (grow_drew (Below.refl _ _)) hb1) (grow_trans hb2 hb3)) _))); (intro v' w1 hrow1 hg1 _)))
      obtain ⟨_, _, _, hgF⟩ := (‹_ ∧ _ ∧ _ ∧ Hid (V.grownBy w1 u3.ownBlock)› : w1.cell? ⟨X, 0, none⟩ = some (.slice ra rs.length rc) ∧ w1.cell? ⟨X, 1, none⟩ = some (.slice ga gs.length gc) ∧ w1.cell? ⟨X, 2, none⟩ = some (.slice sa ss.length sc) ∧ Hid (V.grownBy w1 u3.ownBlock))
      have hBF : Hid (Below w.heap.size w w1) := BG.out w1 hgF.out
      have hRF : Hid (TxRow w.heap.size w1 v' (cl ++ [⟨a1, a2, a3, c1, c2, c3, rs, gs, ss⟩])) := hrow1
      have hCF : Hid ((cl ++ [(⟨a1, a2, a3, c1, c2, c3, rs, gs, ss⟩ : TxA)]).map TxA.core = (l.take (k + 1)).map TxA.core) := by
        show _ = _
        rw [HT.out, List.map_append, hcore.out]
        rfl
      clear hgF hrow1 hg1 KS BG C1 C2 C3 h1 h2 h3 i1 i2 i3 hb1 hb2 hb3 n1 n2 n3 HT hcore hrV
      go_wp2
      go_roundw
      case rel => exact ⟨k + 1, _, by omega, by go_num, hRF, hCF, hBF⟩
      case measure => simp [intOf]; omega
    · have hkk : k = l.length := by omega
      have hcF : Hid (cl.map TxA.core = l.map TxA.core) := by
        have h := hcore.out
        rw [hkk, List.take_of_length_le (Nat.le_refl _)] at h
        exact h
      clear hcore
      go_wp2
      go_ret
      exact ⟨_, cl, rfl, hrow.out, hcF.out, hB.out⟩
end Go.Proofs.Ytikolifbljnokaa

/-
  Two lists of transactions that say the same: the document's own SameTxns.
  Conditions: both can be read, and are not too long.
-/
namespace Go.Proofs.Ytikolifbljnokaa
open Go.RowKit

theorem core_at {l m : List TxA} (h : l.map TxA.core = m.map TxA.core) (k : Nat) : (l.getD k x0).core = (m.getD k x0).core := by
  have h1 : (l.map TxA.core)[k]? = (m.map TxA.core)[k]? := by rw [h]
  simp only [List.getElem?_map] at h1
  rw [List.getD_eq_getElem?_getD, List.getD_eq_getElem?_getD]
  cases e1 : l[k]? <;> cases e2 : m[k]? <;> simp_all

set_option maxRecDepth 100000 in
set_option maxHeartbeats 2000000 in
theorem sameTxns_eq (l m : List TxA) (a a' : Option Addr) (c c' : Nat) (w : World) (hc : l.map TxA.core = m.map TxA.core) (hll : l.length ≤ 1000) (hsm : ∀ x ∈ l, x.rs.length ≤ 100 ∧ x.gs.length ≤ 100 ∧ x.ss.length ≤ 100) (h1 : IsTxs w a l) (h2 : IsTxs w a' m) :
    Calls Try.prog 20 #[.slice a l.length c, .slice a' m.length c'] w fun e w' => e = .returned (.bool true) ∧ Below w.heap.size w w' := by
  have hlen : m.length = l.length := by have := congrArg List.length hc; simpa using this.symm
  have HC : Hid (∀ k, (l.getD k x0).core = (m.getD k x0).core) := core_at hc
  have HS : Hid (∀ x ∈ l, x.rs.length ≤ 100 ∧ x.gs.length ≤ 100 ∧ x.ss.length ≤ 100) := hsm
  have H1 : Hid (IsTxs w a l) := h1
  have H2 : Hid (IsTxs w a' m) := h2
  have HM : Hid (m.length = l.length) := hlen
  rw [hlen]
  clear hc hsm h1 h2 hlen
  have hne : ((l.length : Int) != (l.length : Int)) = false := by simp
  go_enter Try.func20, Try.ntmps20
  go_wp2
  go_loopw [5, 6, 7, 8, 9] (fun i _ _ _ _ wr => ∃ k : Nat, k ≤ l.length ∧ i = .int .i64 k ∧ Hid (Below w.heap.size w wr)) (fun i _ _ _ _ _ => l.length - (intOf i).toNat)
  case atStart => exact ⟨0, Nat.zero_le _, rfl, Below.refl _ _⟩
  case round =>
    obtain ⟨k, hk, rfl, hnx⟩ := hrel
    by_cases hlt : k < l.length
    · obtain ⟨b, off, rfl, _, c0, c1, c2, hx⟩ := H1.out k hlt
      obtain ⟨b', off', rfl, _, e0, e1, e2, hy⟩ := H2.out k (by rw [HM.out]; exact hlt)
      obtain ⟨hs1, hs2, hs3⟩ := HS.out (l.getD k x0) (by simp [List.getD, hlt])
      have hcc := HC.out k
      have d0 := ext_cell hnx.out c0
      have d1 := ext_cell hnx.out c1
      have d2 := ext_cell hnx.out c2
      have f0 := ext_cell hnx.out e0
      have f1 := ext_cell hnx.out e1
      have f2 := ext_cell hnx.out e2
      have HX : Hid (IsX wr (l.getD k x0)) := hx.below hnx.out
      have HY : Hid (IsX wr (m.getD k x0)) := hy.below hnx.out
      clear c0 c1 c2 e0 e1 e2 hx hy
      generalize l.getD k x0 = x at *
      generalize m.getD k x0 = y at *
      obtain ⟨ra, ga, sa, rc, gc, sc, rs, gs, ss⟩ := x
      obtain ⟨ra', ga', sa', rc', gc', sc', rs', gs', ss'⟩ := y
      simp only [TxA.core, Prod.mk.injEq] at hcc
      obtain ⟨rfl, rfl, rfl⟩ := hcc
      simp only at d0 d1 d2 f0 f1 f2 hs1 hs2 hs3
      have i1 : (0 : Int) ≤ (k : Int) := by omega
      have i2 : (k : Int) < (l.length : Int) := by omega
      have hbl := World.block_lt_of_cell? wr _ d0
      have hbl' := World.block_lt_of_cell? wr _ f0
      simp only at hbl hbl'
      have n0 : b ≠ wr.heap.size := by omega
      have n1 : b ≠ wr.heap.size + 1 := by omega
      have n2 : b' ≠ wr.heap.size := by omega
      have n3 : b' ≠ wr.heap.size + 1 := by omega
      go_upto_region 6 with fail
      go_cut [6, 7] (fun p q wx => ∃ X Y, p = .pointer (some ⟨X, 0, none⟩) ∧ q = .pointer (some ⟨Y, 0, none⟩) ∧ wx.cell? ⟨X, 0, none⟩ = some (.slice ra rs.length rc) ∧ wx.cell? ⟨X, 1, none⟩ = some (.slice ga gs.length gc) ∧ wx.cell? ⟨X, 2, none⟩ = some (.slice sa ss.length sc) ∧ wx.cell? ⟨Y, 0, none⟩ = some (.slice ra' rs.length rc') ∧ wx.cell? ⟨Y, 1, none⟩ = some (.slice ga' gs.length gc') ∧ wx.cell? ⟨Y, 2, none⟩ = some (.slice sa' ss.length sc') ∧ Below wr.heap.size wr wx)
      case first =>
        go_region
        all_goals (go_wp2_with fail; go_meet)
        · exact ⟨_, _, rfl, rfl, by first | (simp; done) | (show ((wr.alloc _).alloc _).cell? _ = _; rw [World.cell?_alloc_lt _ _ _ (by simp)]; simp), by first | (simp; done) | (show ((wr.alloc _).alloc _).cell? _ = _; rw [World.cell?_alloc_lt _ _ _ (by simp)]; simp), by first | (simp; done) | (show ((wr.alloc _).alloc _).cell? _ = _; rw [World.cell?_alloc_lt _ _ _ (by simp)]; simp), by first | (simp; done) | (show ((wr.alloc _).alloc _).cell? _ = _; rw [World.cell?_alloc_lt _ _ _ (by simp)]; simp), by first | (simp; done) | (show ((wr.alloc _).alloc _).cell? _ = _; rw [World.cell?_alloc_lt _ _ _ (by simp)]; simp), by first | (simp; done) | (show ((wr.alloc _).alloc _).cell? _ = _; rw [World.cell?_alloc_lt _ _ _ (by simp)]; simp), grow_drew (grow_alloc (grow_alloc (Below.refl _ _) _) _)⟩
        · exact ⟨_, _, rfl, rfl, by first | (simp; done) | (show ((wr.alloc _).alloc _).cell? _ = _; rw [World.cell?_alloc_lt _ _ _ (by simp)]; simp), by first | (simp; done) | (show ((wr.alloc _).alloc _).cell? _ = _; rw [World.cell?_alloc_lt _ _ _ (by simp)]; simp), by first | (simp; done) | (show ((wr.alloc _).alloc _).cell? _ = _; rw [World.cell?_alloc_lt _ _ _ (by simp)]; simp), by first | (simp; done) | (show ((wr.alloc _).alloc _).cell? _ = _; rw [World.cell?_alloc_lt _ _ _ (by simp)]; simp), by first | (simp; done) | (show ((wr.alloc _).alloc _).cell? _ = _; rw [World.cell?_alloc_lt _ _ _ (by simp)]; simp), by first | (simp; done) | (show ((wr.alloc _).alloc _).cell? _ = _; rw [World.cell?_alloc_lt _ _ _ (by simp)]; simp), grow_drew (grow_alloc (grow_alloc (Below.refl _ _) _) _)⟩
      case rest =>
        obtain ⟨X, Y, rfl, rfl, x0', x1', x2', y0', y1', y2', hbc⟩ := hcut
        have HXc : Hid (IsX wc ⟨ra, ga, sa, rc, gc, sc, rs, gs, ss⟩) := HX.out.below hbc
        have HYc : Hid (IsX wc ⟨ra', ga', sa', rc', gc', sc', rs, gs, ss⟩) := HY.out.below hbc
        have HBc : Hid (Below w.heap.size w wc) := grow_trans hnx.out hbc
        clear hbc HX HY hnx d0 d1 d2 f0 f1 f2 n0 n1 n2 n3 hbl hbl' HC HS H1 H2 HM
        have CI : Hid (∀ w', IsInts w' ra rs → IsInts w' ra' rs → Calls Try.prog 23 #[.slice ra rs.length rc, .slice ra' rs.length rc'] w' fun e w'' => e = .returned (.bool true) ∧ Below w'.heap.size w' w'') := fun w' q1 q2 => by
          have h := sameInts_any rs rs ra ra' rc rc' w' (by unfold maxLen; omega) q1 q2
          exact h.mono fun e w'' ⟨h1, h2⟩ => ⟨by rw [h1]; simp, h2⟩
        have g1 : ((gs.length : Int) != (gs.length : Int)) = false := by simp
        have g2 : ((ss.length : Int) != (ss.length : Int)) = false := by simp
        go_wp2_with fail
        refine (CI.out _ HXc.out.t.r HYc.out.t.r).mono ?_
        rintro e w2 ⟨rfl, hb2⟩
        have x0' := ext_cell hb2 x0'
        have x1' := ext_cell hb2 x1'
        have x2' := ext_cell hb2 x2'
        have y0' := ext_cell hb2 y0'
        have y1' := ext_cell hb2 y1'
        have y2' := ext_cell hb2 y2'
        have HX2 : Hid (IsX w2 ⟨ra, ga, sa, rc, gc, sc, rs, gs, ss⟩) := HXc.out.below hb2
        have HY2 : Hid (IsX w2 ⟨ra', ga', sa', rc', gc', sc', rs, gs, ss⟩) := HYc.out.below hb2
        have HB2 : Hid (Below w.heap.size w w2) := grow_trans HBc.out hb2
        clear hb2 HXc HYc HBc CI
        go_wp2
        go_loopw [8] (fun i wr => ∃ j : Nat, j ≤ gs.length ∧ i = .int .i64 j ∧ Hid (Below w2.heap.size w2 wr)) (fun i _ => gs.length - (intOf i).toNat)
        case atStart => exact ⟨0, Nat.zero_le _, rfl, Below.refl _ _⟩
        case round =>
          obtain ⟨j, hj, rfl, hn2⟩ := hrel
          by_cases hlt2 : j < gs.length
          · obtain ⟨bg, og, rfl, _, k0, k1, k2, k3, k4⟩ := HX2.out.t.g j hlt2
            obtain ⟨bg', og', rfl, _, m0, m1, m2, m3, m4⟩ := HY2.out.t.g j hlt2
            have k0 := ext_cell hn2.out k0
            have k1 := ext_cell hn2.out k1
            have k2 := ext_cell hn2.out k2
            have k3 := ext_cell hn2.out k3
            have k4 := ext_cell hn2.out k4
            have m0 := ext_cell hn2.out m0
            have m1 := ext_cell hn2.out m1
            have m2 := ext_cell hn2.out m2
            have m3 := ext_cell hn2.out m3
            have m4 := ext_cell hn2.out m4
            have x1' := ext_cell hn2.out x1'
            have y1' := ext_cell hn2.out y1'
            generalize gs.getD j g0 = G at *
            obtain ⟨Gk, Gak, Gan, Gbk, Gbn⟩ := G
            simp only at k0 k1 k2 k3 k4 m0 m1 m2 m3 m4
            have j1 : (0 : Int) ≤ (j : Int) := by omega
            have j2 : (j : Int) < (gs.length : Int) := by omega
            clear HX2 HY2
            go_wp2_with fail
            go_quiet (fail)
            go_wp2
            go_roundw
            case rel => exact ⟨j + 1, by omega, by go_num, below_drewN hn2.out _⟩
            case measure => simp [intOf]; omega
          · have x2' := ext_cell hn2.out x2'
            have y2' := ext_cell hn2.out y2'
            have x1' := ext_cell hn2.out x1'
            have HB3 : Hid (Below w.heap.size w wr) := grow_trans HB2.out hn2.out
            have HX3 : Hid (IsX wr ⟨ra, ga, sa, rc, gc, sc, rs, gs, ss⟩) := HX2.out.below hn2.out
            have HY3 : Hid (IsX wr ⟨ra', ga', sa', rc', gc', sc', rs, gs, ss⟩) := HY2.out.below hn2.out
            clear HX2 HY2 HB2 hn2
            go_wp2
            go_loopw [9] (fun i wq => ∃ j : Nat, j ≤ ss.length ∧ i = .int .i64 j ∧ Hid (Below wr.heap.size wr wq)) (fun i _ => ss.length - (intOf i).toNat)
            case atStart => exact ⟨0, Nat.zero_le _, rfl, Below.refl _ _⟩
            case round =>
              obtain ⟨j2, hj2, rfl, hn3⟩ := hrel
              have x2' := ext_cell hn3.out x2'
              have y2' := ext_cell hn3.out y2'
              by_cases hlt3 : j2 < ss.length
              · obtain ⟨bg, og, rfl, _, k0, k1, k2, k3, k4, k5⟩ := HX3.out.t.s j2 hlt3
                obtain ⟨bg', og', rfl, _, m0, m1, m2, m3, m4, m5⟩ := HY3.out.t.s j2 hlt3
                have k0 := ext_cell hn3.out k0
                have k1 := ext_cell hn3.out k1
                have k2 := ext_cell hn3.out k2
                have k3 := ext_cell hn3.out k3
                have k4 := ext_cell hn3.out k4
                have k5 := ext_cell hn3.out k5
                have m0 := ext_cell hn3.out m0
                have m1 := ext_cell hn3.out m1
                have m2 := ext_cell hn3.out m2
                have m3 := ext_cell hn3.out m3
                have m4 := ext_cell hn3.out m4
                have m5 := ext_cell hn3.out m5
                generalize ss.getD j2 s0 = G at *
                obtain ⟨Gy, Gk, Gak, Gan, Gbk, Gbn⟩ := G
                simp only at k0 k1 k2 k3 k4 k5 m0 m1 m2 m3 m4 m5
                have j1 : (0 : Int) ≤ (j2 : Int) := by omega
                have j3 : (j2 : Int) < (ss.length : Int) := by omega
                clear HX3 HY3
                go_wp2_with fail
                go_quiet (fail)
                go_wp2
                go_roundw
                case rel => exact ⟨j2 + 1, by omega, by go_num, below_drewN hn3.out _⟩
                case measure => simp [intOf]; omega
              · have HB4 : Hid (Below w.heap.size w wr) := grow_trans HB3.out hn3.out
                clear hn3 HX3 HY3 HB3
                go_wp2
                go_roundw
                case rel => exact ⟨k + 1, by omega, by go_num, HB4⟩
                case measure => simp [intOf]; omega
    · go_wp2
      go_ret
      exact ⟨rfl, hnx.out⟩
end Go.Proofs.Ytikolifbljnokaa
