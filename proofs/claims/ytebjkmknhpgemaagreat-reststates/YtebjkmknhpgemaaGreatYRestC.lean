/-
  
  Conditions: those that each theorem states.
-/
import Derived.Test.YtebjkmknhpgemaaGreatYEithA
import Derived.WalkKit
import Derived.WalkSpells
import Derived.WalkLawsBesides
import Derived.Defers
import Derived.Recover
import Derived.ProofKit
import Derived.Deep.RegionHeld
import Derived.Deep.RegionHeld3
import Derived.Deep.RegionLaw
import Derived.Deep.DeepCutAuto
import Derived.Deep.QuietTactic
import Derived.BigQuiet
import Derived.Maps.AppendAt
import Derived.Lib.SliceRun
import Derived.Deep.AppendLies
import Derived.Test.YtebjkmknhpgemaaGreatYDocK
import Derived.Test.YtebjkmknhpgemaaGreatYDocM
import Derived.Test.YtebjkmknhpgemaaGreatYChkW
import Derived.Test.YtebjkmknhpgemaaGreatYRunC
import Derived.Test.YtebjkmknhpgemaaGreatYDocH
namespace Go.Proofs.YtebjkmknhpgemaaGreat
open Go.RowKit
/-- What may be written over what: numbers over numbers, marks over marks. -/
def Sm (v0 v : Value) : Prop := (∃ a b : Int, v0 = .int .i64 a ∧ v = .int .i64 b) ∨ (∃ a b : Bool, v0 = .bool a ∧ v = .bool b)
theorem sm_int {w : World} {pb pi b i : Nat} {v0 v : Value} {u : Int} (h : Sm v0 v) (hp : w.cell? ⟨pb, pi, none⟩ = some v0) (hx : w.cell? ⟨b, i, none⟩ = some (.int .i64 u)) : ∃ u', (w.setCell ⟨pb, pi, none⟩ v).cell? ⟨b, i, none⟩ = some (.int .i64 u') := by
  by_cases e : (⟨pb, pi, none⟩ : Addr) = ⟨b, i, none⟩
  · injection e with e1 e2
    subst e1 e2
    rw [hx] at hp
    injection hp with hp
    rcases h with ⟨a, c, h1, h2⟩ | ⟨a, c, h1, h2⟩
    · exact ⟨c, by rw [h2]; exact set_here hx⟩
    · rw [← hp] at h1; cases h1
  · exact ⟨u, by rw [World.cell?_setCell_other _ _ _ _ e]; exact hx⟩
theorem sm_bool {w : World} {pb pi b i : Nat} {v0 v : Value} {u : Bool} (h : Sm v0 v) (hp : w.cell? ⟨pb, pi, none⟩ = some v0) (hx : w.cell? ⟨b, i, none⟩ = some (.bool u)) : ∃ u', (w.setCell ⟨pb, pi, none⟩ v).cell? ⟨b, i, none⟩ = some (.bool u') := by
  by_cases e : (⟨pb, pi, none⟩ : Addr) = ⟨b, i, none⟩
  · injection e with e1 e2
    subst e1 e2
    rw [hx] at hp
    injection hp with hp
    rcases h with ⟨a, c, h1, h2⟩ | ⟨a, c, h1, h2⟩
    · rw [← hp] at h1; cases h1
    · exact ⟨c, by rw [h2]; exact set_here hx⟩
  · exact ⟨u, by rw [World.cell?_setCell_other _ _ _ _ e]; exact hx⟩
theorem sm_slice {w : World} {pb pi b i : Nat} {v0 v : Value} {a : Option Addr} {n c : Nat} (h : Sm v0 v) (hp : w.cell? ⟨pb, pi, none⟩ = some v0) (hx : w.cell? ⟨b, i, none⟩ = some (.slice a n c)) : (w.setCell ⟨pb, pi, none⟩ v).cell? ⟨b, i, none⟩ = some (.slice a n c) := by
  rw [World.cell?_setCell_other _ _ _ _ (fun e => ?_)]
  · exact hx
  · rw [e, hx] at hp
    injection hp with hp
    rcases h with ⟨_, _, h1, _⟩ | ⟨_, _, h1, _⟩ <;> (rw [← hp] at h1; cases h1)
theorem sm_frozen (w : World) (p x : Addr) (v : Value) (h : w.frozen? x = false) : (w.setCell p v).frozen? x = false := by simpa using h
/-- Lists that may be written. -/
def WriI (lo : Nat) (w : World) (a : Option Addr) (n : Nat) : Prop := n ≤ 100 ∧ ∀ k, k < n → ∃ b off, a = some (⟨b, off, none⟩ : Addr) ∧ lo ≤ b ∧ (∃ u, w.cell? ⟨b, off + k, none⟩ = some (.int .i64 u)) ∧ w.frozen? ⟨b, off + k, none⟩ = false
def WriB (lo : Nat) (w : World) (a : Option Addr) (n : Nat) : Prop := n ≤ 100 ∧ ∀ k, k < n → ∃ b off, a = some (⟨b, off, none⟩ : Addr) ∧ lo ≤ b ∧ (∃ u, w.cell? ⟨b, off + k, none⟩ = some (.bool u)) ∧ w.frozen? ⟨b, off + k, none⟩ = false
def WriR (Q : Nat → World → Option Addr → Nat → Prop) (lo : Nat) (w : World) (a : Option Addr) (n : Nat) : Prop := n ≤ 100 ∧ ∀ i, i < n → ∃ b off a' len c', a = some (⟨b, off, none⟩ : Addr) ∧ w.cell? ⟨b, off + i, none⟩ = some (.slice a' len c') ∧ Q lo w a' len
structure Wri (lo : Nat) (q : Q4) (w : World) : Prop where
  st : WriI lo w q.sa q.sn
  rd : WriR WriB lo w q.ra q.rn
  wr : WriR WriB lo w q.wa q.wn
  vs : WriR WriI lo w q.va q.vn
theorem WriI.set {lo : Nat} {w : World} {a : Option Addr} {n pb pi : Nat} {v0 v : Value} (h : WriI lo w a n) (hs : Sm v0 v) (hp : w.cell? ⟨pb, pi, none⟩ = some v0) : WriI lo (w.setCell ⟨pb, pi, none⟩ v) a n :=
  ⟨h.1, fun k hk => by
    obtain ⟨b, off, e, hl, ⟨u, hc⟩, hf⟩ := h.2 k hk
    exact ⟨b, off, e, hl, sm_int hs hp hc, sm_frozen _ _ _ _ hf⟩⟩
theorem WriB.set {lo : Nat} {w : World} {a : Option Addr} {n pb pi : Nat} {v0 v : Value} (h : WriB lo w a n) (hs : Sm v0 v) (hp : w.cell? ⟨pb, pi, none⟩ = some v0) : WriB lo (w.setCell ⟨pb, pi, none⟩ v) a n :=
  ⟨h.1, fun k hk => by
    obtain ⟨b, off, e, hl, ⟨u, hc⟩, hf⟩ := h.2 k hk
    exact ⟨b, off, e, hl, sm_bool hs hp hc, sm_frozen _ _ _ _ hf⟩⟩
theorem Wri.set {lo : Nat} {q : Q4} {w : World} {pb pi : Nat} {v0 v : Value} (h : Wri lo q w) (hs : Sm v0 v) (hp : w.cell? ⟨pb, pi, none⟩ = some v0) : Wri lo q (w.setCell ⟨pb, pi, none⟩ v) :=
  ⟨h.st.set hs hp,
   ⟨h.rd.1, fun i hi => by obtain ⟨b, off, a', len, c', e, hc, hq⟩ := h.rd.2 i hi; exact ⟨b, off, a', len, c', e, sm_slice hs hp hc, hq.set hs hp⟩⟩,
   ⟨h.wr.1, fun i hi => by obtain ⟨b, off, a', len, c', e, hc, hq⟩ := h.wr.2 i hi; exact ⟨b, off, a', len, c', e, sm_slice hs hp hc, hq.set hs hp⟩⟩,
   ⟨h.vs.1, fun i hi => by obtain ⟨b, off, a', len, c', e, hc, hq⟩ := h.vs.2 i hi; exact ⟨b, off, a', len, c', e, sm_slice hs hp hc, hq.set hs hp⟩⟩⟩
theorem WriI.below {lo : Nat} {w w' : World} {a : Option Addr} {n : Nat} (h : WriI lo w a n) (hb : Below w.heap.size w w') : WriI lo w' a n :=
  ⟨h.1, fun k hk => by
    obtain ⟨b, off, e, hl, ⟨u, hc⟩, hf⟩ := h.2 k hk
    exact ⟨b, off, e, hl, ⟨u, ext_cell hb hc⟩, (hb.frozen (p := ⟨b, off + k, none⟩) (World.block_lt_of_cell? w ⟨b, off + k, none⟩ hc)).trans hf⟩⟩
theorem WriB.below {lo : Nat} {w w' : World} {a : Option Addr} {n : Nat} (h : WriB lo w a n) (hb : Below w.heap.size w w') : WriB lo w' a n :=
  ⟨h.1, fun k hk => by
    obtain ⟨b, off, e, hl, ⟨u, hc⟩, hf⟩ := h.2 k hk
    exact ⟨b, off, e, hl, ⟨u, ext_cell hb hc⟩, (hb.frozen (p := ⟨b, off + k, none⟩) (World.block_lt_of_cell? w ⟨b, off + k, none⟩ hc)).trans hf⟩⟩
theorem Wri.below {lo : Nat} {q : Q4} {w w' : World} (h : Wri lo q w) (hb : Below w.heap.size w w') : Wri lo q w' :=
  ⟨h.st.below hb,
   ⟨h.rd.1, fun i hi => by obtain ⟨b, off, a', len, c', e, hc, hq⟩ := h.rd.2 i hi; exact ⟨b, off, a', len, c', e, ext_cell hb hc, hq.below hb⟩⟩,
   ⟨h.wr.1, fun i hi => by obtain ⟨b, off, a', len, c', e, hc, hq⟩ := h.wr.2 i hi; exact ⟨b, off, a', len, c', e, ext_cell hb hc, hq.below hb⟩⟩,
   ⟨h.vs.1, fun i hi => by obtain ⟨b, off, a', len, c', e, hc, hq⟩ := h.vs.2 i hi; exact ⟨b, off, a', len, c', e, ext_cell hb hc, hq.below hb⟩⟩⟩
theorem wri_bools {C hi : Nat} {w : World} {a : Option Addr} {n sh : Nat} {F : Nat → Nat → Bool} {g : Nat} {B : Nat → Nat} (h : OR C hi w a n (fun _ => sh) (fun i k => .bool (F i k)) g B) (hn : n ≤ 100) (hs : sh ≤ 100) : WriR WriB C w a n :=
  ⟨hn, fun i hi => by
    obtain ⟨e1, _, _⟩ := h.ad (by omega)
    obtain ⟨a', c, hc, hx, _, _⟩ := h.o i hi
    refine ⟨g, 0, a', sh, c, e1, by rw [Nat.zero_add]; exact hc, hs, fun k hk => ?_⟩
    have h0 : 0 < sh := by omega
    exact ⟨B i, 0, hx h0, (h.b i hi h0).1, ⟨_, by rw [Nat.zero_add]; exact h.c i k hi hk⟩, by rw [Nat.zero_add]; exact h.f i k hi h0⟩⟩
theorem wri_ints {C hi : Nat} {w : World} {a : Option Addr} {n : Nat} {len : Nat → Nat} {F : Nat → Nat → Int} {g : Nat} {B : Nat → Nat} (h : OR C hi w a n len (fun i k => .int .i64 (F i k)) g B) (hn : n ≤ 100) (hs : ∀ i, i < n → len i ≤ 100) : WriR WriI C w a n :=
  ⟨hn, fun i hi => by
    obtain ⟨e1, _, _⟩ := h.ad (by omega)
    obtain ⟨a', c, hc, hx, _, _⟩ := h.o i hi
    refine ⟨g, 0, a', len i, c, e1, by rw [Nat.zero_add]; exact hc, hs i hi, fun k hk => ?_⟩
    have h0 : 0 < len i := by omega
    exact ⟨B i, 0, hx h0, (h.b i hi h0).1, ⟨_, by rw [Nat.zero_add]; exact h.c i k hi hk⟩, by rw [Nat.zero_add]; exact h.f i k hi h0⟩⟩
theorem OwnP.wri {C : Nat} {S : SA} {q : Q4} {w : World} (h : OwnP C S q w) (hs : S.st.length ≤ 100 ∧ S.rd.length ≤ 100 ∧ S.wr.length ≤ 100 ∧ S.vs.length ≤ 100 ∧ ∀ i, (S.rd.getD i []).length ≤ 100 ∧ (S.wr.getD i []).length ≤ 100 ∧ (S.vs.getD i []).length ≤ 100) : Wri C q w := by
  rcases h with ⟨l, sh, h0, e1, e2, e3, e4, f, g0, gr, gw, gv, Br, Bw, Bv, o0, o1, o2, o3⟩ | ⟨rfl, rfl⟩
  · have hl : l.length ≤ 100 := by rw [← f.rd]; exact hs.2.1
    have hsh : l.length = 0 ∨ sh ≤ 100 := by
      by_cases h : l.length = 0
      · exact .inl h
      · right
        have := (hs.2.2.2.2 0).1
        rw [f.rn 0 (by omega)] at this
        exact this
    refine ⟨?_, ?_, ?_, ?_⟩
    · rw [e1]
      refine ⟨by decide, fun k hk => ?_⟩
      obtain ⟨a1, a2, _, a4, a5⟩ := o0.e (by decide)
      exact ⟨g0, 0, a1, a2, ⟨_, by rw [Nat.zero_add]; exact a4 k hk⟩, by rw [Nat.zero_add]; exact a5 k⟩
    · rw [e2]
      rcases hsh with hz | hsh
      · exact ⟨hl, fun i hi => by omega⟩
      · exact wri_bools o1 hl hsh
    · rw [e3]
      rcases hsh with hz | hsh
      · exact ⟨hl, fun i hi => by omega⟩
      · exact wri_bools o2 hl hsh
    · rw [e4]
      exact wri_ints o3 hl (fun i hi => by rw [← f.vn i hi]; exact (hs.2.2.2.2 i).2.2)
  · exact ⟨⟨Nat.zero_le _, fun k hk => absurd hk (Nat.not_lt_zero _)⟩, ⟨Nat.zero_le _, fun k hk => absurd hk (Nat.not_lt_zero _)⟩, ⟨Nat.zero_le _, fun k hk => absurd hk (Nat.not_lt_zero _)⟩, ⟨Nat.zero_le _, fun k hk => absurd hk (Nat.not_lt_zero _)⟩⟩
end Go.Proofs.YtebjkmknhpgemaaGreat
namespace Go.Proofs.YtebjkmknhpgemaaGreat
open Go.RowKit
variable (la : Option Addr) (lc : Nat) (l : List TxA) (sa ra wa va : Option Addr) (sc rc tc vc : Nat) (S : SA)
set_option maxRecDepth 100000 in
set_option maxHeartbeats 20000000 in
/-- The document's DoOf, of a step of kind 1 that there may be. -/
theorem docDo_read (sh n k : Nat) (w : World) (hl : IsTxs w la l) (hs : Sta w sa ra wa va S) (hst : stE (sh : Int) l S = 0) (hn : n < l.length) (hk : k < sh) :
    Calls Tryz.prog 27 #[.agg #[.int .i64 (sh : Int), .slice la l.length lc], .agg #[.slice sa S.st.length sc, .slice ra S.rd.length rc, .slice wa S.wr.length tc, .slice va S.vs.length vc], .agg #[.int .i64 1, .int .i64 (n : Int), .int .i64 (k : Int)]] w fun e w' => ∃ q : Q4, e = .returned (.tuple #[.agg #[.slice q.sa q.sn q.sc, .slice q.ra q.rn q.rc, .slice q.wa q.wn q.tc, .slice q.va q.vn q.vc], .int .i64 (doE sh l S 1 n k)]) ∧ StaF w.heap.size (doS sh l S 1 n k) q w' ∧ Below w.heap.size w w' := by
  obtain ⟨sh', e, h0, h4, hc, hp, hf, _⟩ := stE_zero hst
  obtain rfl : sh = sh' := by omega
  clear e
  have h8 := chkL_len hc
  obtain ⟨W, hWe⟩ : ∃ W : World, W = ((((w.alloc (.cells #[.int .i64 (sh : Int), .slice la l.length lc] 24)).alloc (.cells #[.slice sa S.st.length sc, .slice ra S.rd.length rc, .slice wa S.wr.length tc, .slice va S.vs.length vc] 29)).alloc (.cells #[.int .i64 1, .int .i64 (n : Int), .int .i64 (k : Int)] 48)).alloc (.cells #[.slice none 0 0, .slice none 0 0, .slice none 0 0, .slice none 0 0] 29)) := ⟨_, rfl⟩
  have hW : Hid (Below w.heap.size w W) := by subst hWe; exact (grow_alloc (grow_alloc (grow_alloc (grow_alloc (Below.refl _ _) _) _) _) _)
  have sz : Hid (W.heap.size = w.heap.size + 4) := by subst hWe; show _ = _; simp
  have p0 : W.cell? ⟨w.heap.size, 0, none⟩ = some (.int .i64 (sh : Int)) := by subst hWe; exact ext_cell (grow_alloc (grow_alloc (grow_alloc (Below.refl _ _) _) _) _) (at_new _ _ 24 _ 0 _ (by first | rfl | simp) rfl)
  have p1 : W.cell? ⟨w.heap.size, 1, none⟩ = some (.slice la l.length lc) := by subst hWe; exact ext_cell (grow_alloc (grow_alloc (grow_alloc (Below.refl _ _) _) _) _) (at_new _ _ 24 _ 1 _ (by first | rfl | simp) rfl)
  have q0 : W.cell? ⟨w.heap.size + 1, 0, none⟩ = some (.slice sa S.st.length sc) := by subst hWe; exact ext_cell (grow_alloc (grow_alloc (Below.refl _ _) _) _) (at_new _ _ 29 _ 0 _ (by first | rfl | simp) rfl)
  have q1 : W.cell? ⟨w.heap.size + 1, 1, none⟩ = some (.slice ra S.rd.length rc) := by subst hWe; exact ext_cell (grow_alloc (grow_alloc (Below.refl _ _) _) _) (at_new _ _ 29 _ 1 _ (by first | rfl | simp) rfl)
  have q2 : W.cell? ⟨w.heap.size + 1, 2, none⟩ = some (.slice wa S.wr.length tc) := by subst hWe; exact ext_cell (grow_alloc (grow_alloc (Below.refl _ _) _) _) (at_new _ _ 29 _ 2 _ (by first | rfl | simp) rfl)
  have q3 : W.cell? ⟨w.heap.size + 1, 3, none⟩ = some (.slice va S.vs.length vc) := by subst hWe; exact ext_cell (grow_alloc (grow_alloc (Below.refl _ _) _) _) (at_new _ _ 29 _ 3 _ (by first | rfl | simp) rfl)
  have r0 : W.cell? ⟨w.heap.size + 2, 0, none⟩ = some (.int .i64 1) := by subst hWe; exact ext_cell (grow_alloc (Below.refl _ _) _) (at_new _ _ 48 _ 0 _ (by first | rfl | simp) rfl)
  have r1 : W.cell? ⟨w.heap.size + 2, 1, none⟩ = some (.int .i64 (n : Int)) := by subst hWe; exact ext_cell (grow_alloc (Below.refl _ _) _) (at_new _ _ 48 _ 1 _ (by first | rfl | simp) rfl)
  have r2 : W.cell? ⟨w.heap.size + 2, 2, none⟩ = some (.int .i64 (k : Int)) := by subst hWe; exact ext_cell (grow_alloc (Below.refl _ _) _) (at_new _ _ 48 _ 2 _ (by first | rfl | simp) rfl)
  have s0 : W.cell? ⟨w.heap.size + 3, 0, none⟩ = some (.slice none 0 0) := by subst hWe; exact ext_cell (Below.refl _ _) (at_new _ _ 29 _ 0 _ (by first | rfl | simp) rfl)
  have s1 : W.cell? ⟨w.heap.size + 3, 1, none⟩ = some (.slice none 0 0) := by subst hWe; exact ext_cell (Below.refl _ _) (at_new _ _ 29 _ 1 _ (by first | rfl | simp) rfl)
  have s2 : W.cell? ⟨w.heap.size + 3, 2, none⟩ = some (.slice none 0 0) := by subst hWe; exact ext_cell (Below.refl _ _) (at_new _ _ 29 _ 2 _ (by first | rfl | simp) rfl)
  have s3 : W.cell? ⟨w.heap.size + 3, 3, none⟩ = some (.slice none 0 0) := by subst hWe; exact ext_cell (Below.refl _ _) (at_new _ _ 29 _ 3 _ (by first | rfl | simp) rfl)
  have SF : Hid (∀ j, W.frozen? ⟨w.heap.size + 3, j, none⟩ = false) := by subst hWe; exact fun j => frozen_new _ _ 29 _ j (by simp)
  have KEEP : Hid (∀ w', Below W.heap.size W w' → w'.cell? ⟨w.heap.size, 0, none⟩ = some (.int .i64 (sh : Int)) ∧ w'.cell? ⟨w.heap.size, 1, none⟩ = some (.slice la l.length lc) ∧ w'.cell? ⟨w.heap.size + 1, 0, none⟩ = some (.slice sa S.st.length sc) ∧ w'.cell? ⟨w.heap.size + 1, 1, none⟩ = some (.slice ra S.rd.length rc) ∧ w'.cell? ⟨w.heap.size + 1, 2, none⟩ = some (.slice wa S.wr.length tc) ∧ w'.cell? ⟨w.heap.size + 1, 3, none⟩ = some (.slice va S.vs.length vc) ∧ w'.cell? ⟨w.heap.size + 2, 0, none⟩ = some (.int .i64 1) ∧ w'.cell? ⟨w.heap.size + 2, 1, none⟩ = some (.int .i64 (n : Int)) ∧ w'.cell? ⟨w.heap.size + 2, 2, none⟩ = some (.int .i64 (k : Int)) ∧ w'.cell? ⟨w.heap.size + 3, 0, none⟩ = some (.slice none 0 0) ∧ w'.cell? ⟨w.heap.size + 3, 1, none⟩ = some (.slice none 0 0) ∧ w'.cell? ⟨w.heap.size + 3, 2, none⟩ = some (.slice none 0 0) ∧ w'.cell? ⟨w.heap.size + 3, 3, none⟩ = some (.slice none 0 0)) := fun w' hb => ⟨ext_cell hb p0, ext_cell hb p1, ext_cell hb q0, ext_cell hb q1, ext_cell hb q2, ext_cell hb q3, ext_cell hb r0, ext_cell hb r1, ext_cell hb r2, ext_cell hb s0, ext_cell hb s1, ext_cell hb s2, ext_cell hb s3⟩
  have CK : Hid (Calls Tryz.prog 19 #[.agg #[.int .i64 (sh : Int), .slice la l.length lc], .agg #[.slice sa S.st.length sc, .slice ra S.rd.length rc, .slice wa S.wr.length tc, .slice va S.vs.length vc]] W fun e w' => e = .returned (.int .i64 (stE (sh : Int) l S)) ∧ Below W.heap.size W w') := docCheck_any la lc l sa ra wa va sc rc tc vc S (sh : Int) W (hl.below hW.out) (hs.below hW.out)
  have HL : Hid (IsTxs W la l) := hl.below hW.out
  have HS : Hid (Sta W sa ra wa va S) := hs.below hW.out
  rw [hst] at CK
  have HF : Hid (Form sh l S) := formB_iff.1 hf
  have HP : Hid (∀ a, a < l.length → pnE sh l a = 0) := fun a ha => pnE_in hp ha
  have CM : Hid (∀ w', Below W.heap.size W w' → Calls Tryz.prog 65 #[.agg #[.int .i64 (sh : Int), .slice la l.length lc], .agg #[.slice sa S.st.length sc, .slice ra S.rd.length rc, .slice wa S.wr.length tc, .slice va S.vs.length vc], .agg #[.int .i64 1, .int .i64 (n : Int), .int .i64 (k : Int)]] w' fun e w'' => e = .returned (.bool (mayB sh l S 1 n k)) ∧ Below w'.heap.size w' w'') := fun w' hb => docMay_read la lc l sa ra wa va sc rc tc vc S sh n k w' ((hl.below hW.out).below hb) ((hs.below hW.out).below hb) HP.out HF.out hn h8 hk h4
  have CD : Hid (∀ w', Below W.heap.size W w' → Calls Tryz.prog 71 #[.agg #[.int .i64 (sh : Int), .slice la l.length lc], .agg #[.slice sa S.st.length sc, .slice ra S.rd.length rc, .slice wa S.wr.length tc, .slice va S.vs.length vc], .agg #[.int .i64 1, .int .i64 (n : Int), .int .i64 (k : Int)]] w' fun e w'' => ∃ q : Q4, e = .returned (.agg #[.slice q.sa q.sn q.sc, .slice q.ra q.rn q.rc, .slice q.wa q.wn q.tc, .slice q.va q.vn q.vc]) ∧ StaF w'.heap.size (readX sh l S n k) q w'' ∧ Below w'.heap.size w' w'') := fun w' hb => docDone_read la lc l sa ra wa va sc rc tc vc S sh n k w' ((hl.below hW.out).below hb) ((hs.below hW.out).below hb) hp HF.out hn hk
  have HEE : Hid (doE sh l S 1 n k = if ptB sh (gX l n) k = true then (if at2 S.rd n k = true then 7 else if freeB sh l S 1 n k = true then 0 else 6) else 5) := by
    have e1 : doE sh l S 1 n k = stepE sh l S 1 n k := if_pos hst
    show _ = _
    rw [e1]
    exact stepE_in (kd := 1) (.inl rfl) hn hk
  have HMF : Hid (mayB sh l S 1 n k = (ptB sh (gX l n) k && !at2 S.rd n k && freeB sh l S 1 n k)) := rfl
  have HNS : Hid (¬ doE sh l S 1 n k = 0 → doS sh l S 1 n k = SNil) := fun h => if_neg h
  have HRS : Hid (doE sh l S 1 n k = 0 → doS sh l S 1 n k = readX sh l S n k) := fun h => if_pos h
  have hwa : ∀ (a b c : Int) w, Calls Tryz.prog 51 #[.int .i64 a, .int .i64 b, .int .i64 c] w fun e w' => e = .returned (.bool (decide (b ≤ a) && decide (a ≤ c))) ∧ w' = w := within_any
  have d1 : (decide ((0 : Int) ≤ (n : Int)) && decide ((n : Int) ≤ (l.length : Int) - 1)) = true := by simp; omega
  have d2 : (decide ((0 : Int) ≤ (k : Int)) && decide ((k : Int) ≤ (sh : Int) - 1)) = true := by simp; omega
  clear hl hs hst hf hp hc p0 p1 q0 q1 q2 q3 r0 r1 r2 s0 s1 s2 s3
  generalize doE sh l S 1 n k = E at *
  generalize doS sh l S 1 n k = S9 at *
  have HWe : Hid (W = _) := hWe
  clear hWe
  go_enter Tryz.func27, Tryz.ntmps27
  go_upto_region 1 with fail
  rw [← HWe.out]
  clear HWe
  obtain ⟨p0, p1, q0, q1, q2, q3, r0, r1, r2, s0, s1, s2, s3⟩ := KEEP.out W (Below.refl _ _)
  go_wp2_with fail
  refine CK.out.mono ?_
  rintro e V ⟨rfl, hbV⟩
  have BV : Hid (Below W.heap.size W V) := hbV
  clear CK hbV p0 p1 q0 q1 q2 q3 r0 r1 r2 s0 s1 s2 s3
  obtain ⟨p0, p1, q0, q1, q2, q3, r0, r1, r2, s0, s1, s2, s3⟩ := KEEP.out V BV.out
  obtain ⟨b4, o4, b5, o5, c5, e4, _, _, z4, z5⟩ := (HS.out.below BV.out).rd.rows HF.out.rd HF.out.rn h0 n hn
  have z5' := z5 k hk
  rw [e4, HF.out.rd] at q1
  clear z5
  go_upto_region 8 with (first | (go_at_call 51; refine (hwa _ _ _ _).mono ?_; rintro e w5 ⟨rfl, e5⟩; have e6 := e5.symm; subst e6; (first | rw [d1] | rw [d2])))
  go_quiet (fail)
  obtain ⟨V2, eV, BV2⟩ : ∃ V2, V.drewN nq = V2 ∧ Hid (Below W.heap.size W V2) := ⟨_, rfl, drewN_grow BV.out _⟩
  rw [eV]
  clear eV BV p0 p1 q0 q1 q2 q3 r0 r1 r2 s0 s1 s2 s3 z4 z5' e4
  go_upto_region 9 with fail
  obtain ⟨p0, p1, q0, q1, q2, q3, r0, r1, r2, s0, s1, s2, s3⟩ := KEEP.out V2 BV2.out
  have CA : Hid (∀ w1, Below V2.heap.size V2 w1 → Calls Tryz.prog 53 #[.agg #[.int .i64 sh, .slice la l.length lc], .int .i64 n] w1 fun e w' => ∃ b3 o3 c3, e = .returned (.slice (some ⟨b3, o3, none⟩) sh c3) ∧ w'.cell? ⟨b3, o3 + k, none⟩ = some (.bool (ptB sh (gX l n) k)) ∧ Below w1.heap.size w1 w') := fun w1 hb => by
    refine (partOf_any la lc l sh n _ ((HL.out.below BV2.out).below hb) (HP.out n hn)).mono ?_
    rintro e w2 ⟨a, c, rfl, hbs, hb2⟩
    have hL := marks_len sh (keysIn (locksAt l n))
    obtain ⟨b3, o3, rfl, _, d3⟩ := hbs k (by rw [hL]; exact hk)
    exact ⟨b3, o3, c, by rw [hL], d3, hb2⟩
  have KS : Hid (∀ w', Below V2.heap.size V2 w' → w'.cell? ⟨w.heap.size, 0, none⟩ = some (.int .i64 (sh : Int)) ∧ w'.cell? ⟨w.heap.size, 1, none⟩ = some (.slice la l.length lc) ∧ w'.cell? ⟨w.heap.size + 2, 1, none⟩ = some (.int .i64 (n : Int)) ∧ w'.cell? ⟨w.heap.size + 2, 2, none⟩ = some (.int .i64 (k : Int)) ∧ Hid (Below V2.heap.size V2 w')) := fun w' hb => ⟨ext_cell hb p0, ext_cell hb p1, ext_cell hb r1, ext_cell hb r2, hb⟩
  clear p0 p1 q0 q1 q2 q3 r0 r1 r2 s0 s1 s2 s3
  refine wp_region_held_drew (S := (fun w' => w'.cell? ⟨w.heap.size, 0, none⟩ = some (.int .i64 (sh : Int)) ∧ w'.cell? ⟨w.heap.size, 1, none⟩ = some (.slice la l.length lc) ∧ w'.cell? ⟨w.heap.size + 2, 1, none⟩ = some (.int .i64 (n : Int)) ∧ w'.cell? ⟨w.heap.size + 2, 2, none⟩ = some (.int .i64 (k : Int)) ∧ Hid (Below V2.heap.size V2 w'))) (by kernel_rfl) ?_ (fun hHeld => ?_)
  · refine KS.out _ ?_
    exact grow_drew (Below.refl _ _)
  refine wpAnyH_take (i := 0) (oi := { dst := some 55, op := .load 24 (.tmp 3), type := 24, pos := "steps.go:165", after := #[], guard := none }) (v := ?_) rfl (by kernel_rfl) (by kernel_rfl) (by kernel_rfl) (fun _ _ _ h => h) (Or.inl ⟨by rfl, ?_⟩) (by assumption) ?_
  rotate_left
  · intro w hSw
    go_simp
    first | done | with_reducible rfl
  try simp only [Act.put, List.setIfInBounds_toArray, List.set_cons_zero, List.set_cons_succ]
  refine wpAnyH_take (i := 1) (oi := { dst := some 56, op := .fieldAddr 48 (.tmp 5) 1, type := 0, pos := "steps.go:165", after := #[], guard := none }) (v := ?_) rfl (by kernel_rfl) (by kernel_rfl) (by kernel_rfl) (fun _ _ _ h => h) (Or.inl ⟨by rfl, ?_⟩) (by assumption) ?_
  rotate_left
  · intro w hSw
    go_simp
    first | done | with_reducible rfl
  try simp only [Act.put, List.setIfInBounds_toArray, List.set_cons_zero, List.set_cons_succ]
  refine wpAnyH_take (i := 2) (oi := { dst := some 57, op := .load 3 (.tmp 56), type := 3, pos := "steps.go:165", after := #[{ on := 1, ground := .data }], guard := none }) (v := ?_) rfl (by kernel_rfl) (by kernel_rfl) (by kernel_rfl) (fun _ _ _ h => h) (Or.inl ⟨by rfl, ?_⟩) (by assumption) ?_
  rotate_left
  · intro w hSw
    go_simp
    first | done | with_reducible rfl
  try simp only [Act.put, List.setIfInBounds_toArray, List.set_cons_zero, List.set_cons_succ]
  refine wpAnyH_take (i := 4) (oi := { dst := some 59, op := .fieldAddr 48 (.tmp 5) 2, type := 0, pos := "steps.go:165", after := #[], guard := none }) (v := ?_) rfl (by kernel_rfl) (by kernel_rfl) (by kernel_rfl) (fun _ _ _ h => h) (Or.inl ⟨by rfl, ?_⟩) (by assumption) ?_
  rotate_left
  · intro w hSw
    go_simp
    first | done | with_reducible rfl
  try simp only [Act.put, List.setIfInBounds_toArray, List.set_cons_zero, List.set_cons_succ]
  refine wpAnyH_take (i := 5) (oi := { dst := some 60, op := .load 3 (.tmp 59), type := 3, pos := "steps.go:165", after := #[{ on := 4, ground := .data }], guard := none }) (v := ?_) rfl (by kernel_rfl) (by kernel_rfl) (by kernel_rfl) (fun _ _ _ h => h) (Or.inl ⟨by rfl, ?_⟩) (by assumption) ?_
  rotate_left
  · intro w hSw
    go_simp
    first | done | with_reducible rfl
  try simp only [Act.put, List.setIfInBounds_toArray, List.set_cons_zero, List.set_cons_succ]
  refine wpAnyH_ready (rs := [3]) (by kernel_rfl) (by simp) ?_
  refine AllReadyH.cons (o := { dst := some 58, op := .call { callee := .value (.func 53), args := #[.tmp 55, .tmp 57], argTypes := #[24, 3] }, type := 65, pos := "steps.go:165", after := #[{ on := 0, ground := .data }, { on := 2, ground := .data }], guard := none }) rfl (fun K hK => ?_) AllReadyH.nil
  go_simp
  go_wp2_with (go_at_call 53; refine (CA.out _ (grow_drew (Below.refl _ _))).mono ?_; rintro e V3 ⟨b3, o3, c3, rfl, d3, hb1⟩)
  have BW : Hid (Below V2.heap.size V2 V3) := grow_trans (grow_drew (Below.refl _ _)) hb1
  clear hHeld
  refine hK.out _ _ (KS.out _ BW.out) (fun hHeld => ?_)
  clear hK K
  refine wpAnyH_take (i := 6) (oi := { dst := some 61, op := .indexAddr 65 (.tmp 58) (.tmp 60), type := 0, pos := "steps.go:165", after := #[{ on := 3, ground := .data }, { on := 5, ground := .data }], guard := none }) (v := ?_) rfl (by kernel_rfl) (by kernel_rfl) (by kernel_rfl) (fun _ _ _ h => h) (Or.inl ⟨by rfl, ?_⟩) (by assumption) ?_
  rotate_left
  · intro w hSw
    go_simp
    first | done | with_reducible rfl
  try simp only [Act.put, List.setIfInBounds_toArray, List.set_cons_zero, List.set_cons_succ]
  refine wpAnyH_ready (rs := [7]) (by kernel_rfl) (by simp) ?_
  refine AllReadyH.cons (o := { dst := some 62, op := .load 4 (.tmp 61), type := 4, pos := "steps.go:165", after := #[{ on := 6, ground := .data }], guard := none }) rfl (fun K hK => ?_) AllReadyH.nil
  go_simp
  skip
  clear hHeld
  refine hK.out _ _ (KS.out _ BW.out) (fun hHeld => ?_)
  clear hK K
  refine wpAnyH_take (i := 8) (oi := { dst := some 10, op := .assign (.tmp 62), type := 4, pos := "steps.go:165", after := #[{ on := 7, ground := .data }, { on := 3, ground := .chain }, { on := 0, ground := .phase }, { on := 1, ground := .phase }, { on := 2, ground := .phase }, { on := 3, ground := .phase }, { on := 4, ground := .phase }, { on := 5, ground := .phase }, { on := 6, ground := .phase }, { on := 7, ground := .phase }], guard := none }) (v := ?_) rfl (by kernel_rfl) (by kernel_rfl) (by kernel_rfl) (fun _ _ _ h => h) (Or.inl ⟨by rfl, ?_⟩) (by assumption) ?_
  rotate_left
  · intro w hSw
    go_simp
    first | done | with_reducible rfl
  try simp only [Act.put, List.setIfInBounds_toArray, List.set_cons_zero, List.set_cons_succ]
  refine wpAnyH_done (by kernel_rfl) ?_ _
  have BV3 : Hid (Below W.heap.size W V3) := grow_trans BV2.out BW.out
  clear BW hb1 d3 KS CA BV2 hHeld
  obtain ⟨p0, p1, q0, q1, q2, q3, r0, r1, r2, s0, s1, s2, s3⟩ := KEEP.out V3 BV3.out
  cases eP : ptB sh (gX l n) k with
  | false =>
    obtain rfl : E = 5 := by rw [HEE.out, eP]; rfl
    obtain rfl : S9 = SNil := HNS.out (by decide)
    have sf : ∀ j, V3.frozen? ⟨w.heap.size + 3, j, none⟩ = false := fun j => (BV3.out.frozen (p := ⟨w.heap.size + 3, j, none⟩) (by have := sz.out; show w.heap.size + 3 < _; omega)).trans (SF.out j)
    obtain ⟨x0, x1, x2, x3⟩ := put4 qNil s0 s1 s2 s3
    dsimp only [qNil] at x0 x1 x2 x3
    have FB : Hid (Below w.heap.size w ((((V3.setCell ⟨w.heap.size + 3, 0, none⟩ (.slice qNil.sa qNil.sn qNil.sc)).setCell ⟨w.heap.size + 3, 1, none⟩ (.slice qNil.ra qNil.rn qNil.rc)).setCell ⟨w.heap.size + 3, 2, none⟩ (.slice qNil.wa qNil.wn qNil.tc)).setCell ⟨w.heap.size + 3, 3, none⟩ (.slice qNil.va qNil.vn qNil.vc))) := grow_set (grow_set (grow_set (grow_set (grow_trans hW.out BV3.out) (by simp) _) (by simp) _) (by simp) _) (by simp) _
    clear BV3
    go_upto_region 13 with fail
    go_wp2_with fail
    refine bodyPost_ret (v := .tuple #[.agg #[.slice none 0 0, .slice none 0 0, .slice none 0 0, .slice none 0 0], .int .i64 5]) (by simp [results, Tryz.results27, go_sem, x0, x1, x2, x3]) rfl ⟨qNil, rfl, staF_nil _ _, FB.out⟩
  | true =>
    cases eQ : at2 S.rd n k with
    | true =>
      obtain rfl : E = 7 := by rw [HEE.out, eP, eQ]; rfl
      obtain rfl : S9 = SNil := HNS.out (by decide)
      have sf : ∀ j, V3.frozen? ⟨w.heap.size + 3, j, none⟩ = false := fun j => (BV3.out.frozen (p := ⟨w.heap.size + 3, j, none⟩) (by have := sz.out; show w.heap.size + 3 < _; omega)).trans (SF.out j)
      obtain ⟨x0, x1, x2, x3⟩ := put4 qNil s0 s1 s2 s3
      dsimp only [qNil] at x0 x1 x2 x3
      have FB : Hid (Below w.heap.size w ((((V3.setCell ⟨w.heap.size + 3, 0, none⟩ (.slice qNil.sa qNil.sn qNil.sc)).setCell ⟨w.heap.size + 3, 1, none⟩ (.slice qNil.ra qNil.rn qNil.rc)).setCell ⟨w.heap.size + 3, 2, none⟩ (.slice qNil.wa qNil.wn qNil.tc)).setCell ⟨w.heap.size + 3, 3, none⟩ (.slice qNil.va qNil.vn qNil.vc))) := grow_set (grow_set (grow_set (grow_set (grow_trans hW.out BV3.out) (by simp) _) (by simp) _) (by simp) _) (by simp) _
      clear BV3
      go_upto_region 13 with fail
      go_wp2_with fail
      refine bodyPost_ret (v := .tuple #[.agg #[.slice none 0 0, .slice none 0 0, .slice none 0 0, .slice none 0 0], .int .i64 7]) (by simp [results, Tryz.results27, go_sem, x0, x1, x2, x3]) rfl ⟨qNil, rfl, staF_nil _ _, FB.out⟩
    | false =>
      go_upto_region 13 with fail
      go_wp2_with fail
      refine (CM.out _ BV3.out).mono ?_
      rintro e VM ⟨rfl, hbm⟩
      have BVM : Hid (Below W.heap.size W VM) := grow_trans BV3.out hbm
      clear hbm p0 p1 q0 q1 q2 q3 r0 r1 r2 s0 s1 s2 s3
      obtain ⟨p0, p1, q0, q1, q2, q3, r0, r1, r2, s0, s1, s2, s3⟩ := KEEP.out VM BVM.out
      cases eF : mayB sh l S 1 n k with
      | false =>
        obtain rfl : E = 6 := by rw [HEE.out, eP, eQ]; show (if freeB sh l S 1 n k = true then (0 : Int) else 6) = 6; have h := HMF.out; rw [eP, eQ, eF] at h; rw [← show false = freeB sh l S 1 n k by simpa using h]; rfl
        obtain rfl : S9 = SNil := HNS.out (by decide)
        have sf : ∀ j, VM.frozen? ⟨w.heap.size + 3, j, none⟩ = false := fun j => (BVM.out.frozen (p := ⟨w.heap.size + 3, j, none⟩) (by have := sz.out; show w.heap.size + 3 < _; omega)).trans (SF.out j)
        obtain ⟨x0, x1, x2, x3⟩ := put4 qNil s0 s1 s2 s3
        dsimp only [qNil] at x0 x1 x2 x3
        have FB : Hid (Below w.heap.size w ((((VM.setCell ⟨w.heap.size + 3, 0, none⟩ (.slice qNil.sa qNil.sn qNil.sc)).setCell ⟨w.heap.size + 3, 1, none⟩ (.slice qNil.ra qNil.rn qNil.rc)).setCell ⟨w.heap.size + 3, 2, none⟩ (.slice qNil.wa qNil.wn qNil.tc)).setCell ⟨w.heap.size + 3, 3, none⟩ (.slice qNil.va qNil.vn qNil.vc))) := grow_set (grow_set (grow_set (grow_set (grow_trans hW.out BVM.out) (by simp) _) (by simp) _) (by simp) _) (by simp) _
        clear BVM
        go_wp2_with fail
        refine bodyPost_ret (v := .tuple #[.agg #[.slice none 0 0, .slice none 0 0, .slice none 0 0, .slice none 0 0], .int .i64 6]) (by simp [results, Tryz.results27, go_sem, x0, x1, x2, x3]) rfl ⟨qNil, rfl, staF_nil _ _, FB.out⟩
      | true =>
        obtain rfl : E = 0 := by rw [HEE.out, eP, eQ]; show (if freeB sh l S 1 n k = true then (0 : Int) else 6) = 0; have h := HMF.out; rw [eP, eQ, eF] at h; rw [← show true = freeB sh l S 1 n k by simpa using h]; rfl
        obtain rfl : S9 = readX sh l S n k := HRS.out rfl
        go_wp2_with fail
        refine (CD.out _ BVM.out).mono ?_
        rintro e VD ⟨q, rfl, hq, hbd⟩
        have BVD : Hid (Below W.heap.size W VD) := grow_trans BVM.out hbd
        clear p0 p1 q0 q1 q2 q3 r0 r1 r2 s0 s1 s2 s3
        obtain ⟨p0, p1, q0, q1, q2, q3, r0, r1, r2, s0, s1, s2, s3⟩ := KEEP.out VD BVD.out
        have sf : ∀ j, VD.frozen? ⟨w.heap.size + 3, j, none⟩ = false := fun j => (BVD.out.frozen (p := ⟨w.heap.size + 3, j, none⟩) (by have := sz.out; show w.heap.size + 3 < _; omega)).trans (SF.out j)
        obtain ⟨x0, x1, x2, x3⟩ := put4 q s0 s1 s2 s3
        have hlt : w.heap.size + 3 < VM.heap.size := by have := sz.out; have := BVM.out.size; omega
        have FS : Hid (StaF w.heap.size (readX sh l S n k) q ((((VD.setCell ⟨w.heap.size + 3, 0, none⟩ (.slice q.sa q.sn q.sc)).setCell ⟨w.heap.size + 3, 1, none⟩ (.slice q.ra q.rn q.rc)).setCell ⟨w.heap.size + 3, 2, none⟩ (.slice q.wa q.wn q.tc)).setCell ⟨w.heap.size + 3, 3, none⟩ (.slice q.va q.vn q.vc))) := ((((hq.set _ 0 _ hlt).set _ 1 _ hlt).set _ 2 _ hlt).set _ 3 _ hlt).low (by omega)
        have FB : Hid (Below w.heap.size w ((((VD.setCell ⟨w.heap.size + 3, 0, none⟩ (.slice q.sa q.sn q.sc)).setCell ⟨w.heap.size + 3, 1, none⟩ (.slice q.ra q.rn q.rc)).setCell ⟨w.heap.size + 3, 2, none⟩ (.slice q.wa q.wn q.tc)).setCell ⟨w.heap.size + 3, 3, none⟩ (.slice q.va q.vn q.vc))) := grow_set (grow_set (grow_set (grow_set (grow_trans hW.out BVD.out) (by simp) _) (by simp) _) (by simp) _) (by simp) _
        clear hq hbd BVD BVM BV3
        go_wp2_with fail
        refine bodyPost_ret (v := .tuple #[.agg #[.slice q.sa q.sn q.sc, .slice q.ra q.rn q.rc, .slice q.wa q.wn q.tc, .slice q.va q.vn q.vc], .int .i64 0]) (by simp [results, Tryz.results27, go_sem, x0, x1, x2, x3]) rfl ⟨q, rfl, FS.out, FB.out⟩
end Go.Proofs.YtebjkmknhpgemaaGreat
namespace Go.Proofs.YtebjkmknhpgemaaGreat
open Go.RowKit
variable (la : Option Addr) (lc : Nat) (l : List TxA) (sa ra wa va : Option Addr) (sc rc tc vc : Nat) (S : SA)
/-- The document's DoOf, whatever it is handed. -/
theorem docDo_any (m kd n k : Int) (w : World) (hl : IsTxs w la l) (hs : Sta w sa ra wa va S) :
    Calls Tryz.prog 27 #[.agg #[.int .i64 m, .slice la l.length lc], .agg #[.slice sa S.st.length sc, .slice ra S.rd.length rc, .slice wa S.wr.length tc, .slice va S.vs.length vc], .agg #[.int .i64 kd, .int .i64 n, .int .i64 k]] w fun e w' => ∃ q : Q4, e = .returned (.tuple #[.agg #[.slice q.sa q.sn q.sc, .slice q.ra q.rn q.rc, .slice q.wa q.wn q.tc, .slice q.va q.vn q.vc], .int .i64 (doE m l S kd n k)]) ∧ StaF w.heap.size (doS m l S kd n k) q w' ∧ Below w.heap.size w w' := by
  by_cases hst : stE m l S = 0
  rotate_left
  · have e1 : doE m l S kd n k = stE m l S := if_neg hst
    have e2 : doS m l S kd n k = SNil := if_neg (by rw [e1]; exact hst)
    rw [e2]
    exact docDo_none la lc l sa ra wa va sc rc tc vc S m kd n k w hl hs _ (.inl ⟨hst, e1⟩)
  have e1 : doE m l S kd n k = stepE m.toNat l S kd n k := if_pos hst
  by_cases hkd : kd = 1 ∨ kd = 2
  rotate_left
  · have e3 : doE m l S kd n k = 4 := by rw [e1]; exact if_neg hkd
    have e2 : doS m l S kd n k = SNil := if_neg (by rw [e3]; decide)
    rw [e2]
    exact docDo_none la lc l sa ra wa va sc rc tc vc S m kd n k w hl hs _ (.inr (.inl ⟨hst, fun h => hkd (.inl h), fun h => hkd (.inr h), e3⟩))
  obtain ⟨sh, rfl, h0, h4, _⟩ := stE_zero hst
  by_cases hr : n < 0 ∨ (l.length : Int) ≤ n ∨ k < 0 ∨ (sh : Int) ≤ k
  · have e3 : doE sh l S kd n k = 5 := by
      rw [e1]
      unfold stepE
      rw [if_pos hkd]
      exact if_pos hr
    have e2 : doS sh l S kd n k = SNil := if_neg (by rw [e3]; decide)
    rw [e2]
    refine docDo_none la lc l sa ra wa va sc rc tc vc S sh kd n k w hl hs _ (.inr (.inr ⟨hst, hkd, e3, ?_⟩))
    by_cases h1 : n < 0
    · exact .inl h1
    · by_cases h2 : (l.length : Int) ≤ n
      · exact .inr (.inl h2)
      · exact .inr (.inr ⟨by omega, by omega, by omega⟩)
  · obtain ⟨N, rfl⟩ : ∃ N : Nat, n = N := ⟨n.toNat, by omega⟩
    obtain ⟨K, rfl⟩ : ∃ K : Nat, k = K := ⟨k.toNat, by omega⟩
    rcases hkd with rfl | rfl
    · exact docDo_read la lc l sa ra wa va sc rc tc vc S sh N K w hl hs hst (by omega) (by omega)
    · exact docDo_write la lc l sa ra wa va sc rc tc vc S sh N K w hl hs hst (by omega) (by omega)
theorem do_small (m : Int) (l : List TxA) (S : SA) (kd n k : Int) : (doS m l S kd n k).st.length ≤ 100 ∧ (doS m l S kd n k).rd.length ≤ 100 ∧ (doS m l S kd n k).wr.length ≤ 100 ∧ (doS m l S kd n k).vs.length ≤ 100 ∧ ∀ i, ((doS m l S kd n k).rd.getD i []).length ≤ 100 ∧ ((doS m l S kd n k).wr.getD i []).length ≤ 100 ∧ ((doS m l S kd n k).vs.getD i []).length ≤ 100 := by
  by_cases h : doE m l S kd n k = 0
  · have hst : stE m l S = 0 := by
      apply Classical.byContradiction
      intro hn
      have e1 : doE m l S kd n k = stE m l S := if_neg hn
      rw [e1] at h
      exact hn h
    exact small_st (do_st hst h)
  · have e : doS m l S kd n k = SNil := if_neg h
    rw [e]
    exact small_nil
end Go.Proofs.YtebjkmknhpgemaaGreat
namespace Go.Proofs.YtebjkmknhpgemaaGreat
open Go.RowKit
/-- Two states that are being written over. -/
def qq (q1 q2 : Q4) (i : Nat) : Q4 := if i = 0 then q1 else q2
structure RJ (W4 : World) (lo Lb : Nat) (q1 q2 : Q4) (wr : World) : Prop where
  bl : Below lo W4 wr
  w : ∀ i, i < 2 → Wri lo (qq q1 q2 i) wr
  h : ∀ i, i < 2 → wr.cell? ⟨Lb, i * 4, none⟩ = some (.slice (qq q1 q2 i).sa (qq q1 q2 i).sn (qq q1 q2 i).sc) ∧ wr.cell? ⟨Lb, i * 4 + 1, none⟩ = some (.slice (qq q1 q2 i).ra (qq q1 q2 i).rn (qq q1 q2 i).rc) ∧ wr.cell? ⟨Lb, i * 4 + 2, none⟩ = some (.slice (qq q1 q2 i).wa (qq q1 q2 i).wn (qq q1 q2 i).tc) ∧ wr.cell? ⟨Lb, i * 4 + 3, none⟩ = some (.slice (qq q1 q2 i).va (qq q1 q2 i).vn (qq q1 q2 i).vc)
theorem RJ.set {W4 : World} {lo Lb : Nat} {q1 q2 : Q4} {wr : World} {pb pi : Nat} {v0 v : Value} (J : RJ W4 lo Lb q1 q2 wr) (hs : Sm v0 v) (hp : wr.cell? ⟨pb, pi, none⟩ = some v0) (hlo : lo ≤ pb) : RJ W4 lo Lb q1 q2 (wr.setCell ⟨pb, pi, none⟩ v) :=
  ⟨J.bl.setCell hlo _, fun i hi => (J.w i hi).set hs hp, fun i hi => ⟨sm_slice hs hp (J.h i hi).1, sm_slice hs hp (J.h i hi).2.1, sm_slice hs hp (J.h i hi).2.2.1, sm_slice hs hp (J.h i hi).2.2.2⟩⟩
theorem RJ.below {W4 : World} {lo Lb : Nat} {q1 q2 : Q4} {w w' : World} (J : RJ W4 lo Lb q1 q2 w) (hb : Below w.heap.size w w') (hlo : lo ≤ w.heap.size) : RJ W4 lo Lb q1 q2 w' :=
  ⟨J.bl.trans (hb.mono hlo), fun i hi => (J.w i hi).below hb, fun i hi => ⟨ext_cell hb (J.h i hi).1, ext_cell hb (J.h i hi).2.1, ext_cell hb (J.h i hi).2.2.1, ext_cell hb (J.h i hi).2.2.2⟩⟩
variable (la : Option Addr) (lc : Nat) (l : List TxA) (sa ra wa va : Option Addr) (sc rc tc vc : Nat) (S : SA)
/-- The document's OwnState of a right state. -/
theorem docOwn_q (m : Int) (w : World) (hs : Sta w sa ra wa va S) (h : stE m l S = 0) :
    Calls Tryz.prog 40 #[.agg #[.slice sa S.st.length sc, .slice ra S.rd.length rc, .slice wa S.wr.length tc, .slice va S.vs.length vc]] w fun e w' => ∃ q : Q4, e = .returned (.agg #[.slice q.sa q.sn q.sc, .slice q.ra q.rn q.rc, .slice q.wa q.wn q.tc, .slice q.va q.vn q.vc]) ∧ StaF w.heap.size S q w' ∧ Below w.heap.size w w' := by
  obtain ⟨sh, rfl, h0, h4, hc, hp, hf, _⟩ := stE_zero h
  have f := formB_iff.1 hf
  have hr4 : ∀ i, i < l.length → (gX l i).rs.length ≤ 4 := fun i hi => (many_small _ _ _ (chk_parts (chkL_in hc i hi)).1).1
  rw [f.st, f.rd, f.wr, f.vs]
  refine (docOwn_any sa ra wa va sc rc tc vc l sh S w h0 h4 (chkL_len hc) hr4 f hs).mono ?_
  rintro e w' ⟨sa', ra', wa', va', sc', rc', tc', vc', g0, c1, c2, c3, gr, gw, gv, Br, Bw, Bv, rfl, ho, hb⟩
  exact ⟨⟨sa', ra', wa', va', 8, l.length, l.length, l.length, sc', rc', tc', vc'⟩, rfl, OwnQ.staF (l := l) (sh := sh) ⟨rfl, rfl, rfl, rfl, g0, c1, c2, c3, _, gr, gw, gv, Br, Bw, Bv, ho⟩ h0, hb⟩
end Go.Proofs.YtebjkmknhpgemaaGreat
