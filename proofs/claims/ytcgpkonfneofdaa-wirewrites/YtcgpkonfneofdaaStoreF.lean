/-
  store.outcomeOf: transactions one after the other, at a copy of a store.
  Conditions: the store and the transactions can be read; there is no error.
-/
import Derived.Test.YtcgpkonfneofdaaStoreE
import Derived.WalkKit
import Derived.WalkSpells
import Derived.WalkLawsBesides
import Derived.Defers
import Derived.Recover
import Derived.ProofKit
import Derived.Deep.RegionHeld
import Derived.Deep.RegionHeld3
import Derived.Deep.DeepCutAuto
import Derived.Deep.RegionLaw
import Derived.BigQuiet
namespace Go.Proofs.Ytcgpkonfneofdaa
open Go.RowKit

set_option maxRecDepth 100000 in
theorem chkL_len {l : List TxA} (h : chkL l = 0) : l.length ≤ 8 := by
  unfold chkL at h
  by_cases c : 8 < l.length
  · rw [if_pos c] at h; omega
  · omega
set_option maxRecDepth 100000 in
theorem chkL_at {l : List TxA} (h : chkL l = 0) (k : Nat) (hk : k < l.length) : chkX (l.getD k x0) = 0 := by
  have h8 := chkL_len h
  unfold chkL at h
  rw [if_neg (by omega)] at h
  exact map_zero chkX l x0 h k hk

theorem own_mono {w : World} {base base' : Nat} {e : TypeId} {size : Nat} {v : Value} {n : Nat} {xs : List Value} (h : w.ownsRow base e size v n xs) (hb : base' ≤ base) : w.ownsRow base' e size v n xs := by
  refine ⟨h.1, ?_⟩
  rcases h.2 with hn | ⟨g, cap, cur, e1, hbg, rest⟩
  · exact .inl hn
  · exact .inr ⟨g, cap, cur, e1, Nat.le_trans hb hbg, rest⟩
theorem resRow_mono {C C' : Nat} {w : World} {v : Value} {rl : List RsA} (h : ResRow C w v rl) (hc : C' ≤ C) : ResRow C' w v rl := ⟨own_mono h.1 hc, fun r hr => ⟨(h.2 r hr).1.widen hc (Nat.le_refl _), (h.2 r hr).2⟩⟩

/-- What a round leaves of the memory that it must not touch. -/
structure Kept (g O : Nat) (v : Value) (w w' : World) : Prop where
  os : w'.os = w.os
  tape : w'.tape = w.tape
  output : w'.output = w.output
  size : w.heap.size ≤ w'.heap.size
  block : ∀ b, b < w.heap.size → b ≠ g → b ≠ O → v.ownBlock ≠ some b → w'.heap[b]? = w.heap[b]?
set_option maxRecDepth 100000 in
theorem Kept.refl (g O : Nat) (v : Value) (w : World) : Kept g O v w w := ⟨rfl, rfl, rfl, Nat.le_refl _, fun _ _ _ _ _ => rfl⟩
set_option maxRecDepth 100000 in
theorem Kept.on {g O : Nat} {v : Value} {a w w' : World} {row : Option Nat} (h : Kept g O v a w) (hg : w.grownBy w' row) (hr : ∀ j, row = some j → j = g ∨ j = O ∨ v.ownBlock = some j) : Kept g O v a w' :=
  ⟨hg.os.trans h.os, hg.tape.trans h.tape, hg.output.trans h.output, Nat.le_trans h.size hg.size, fun b hb h1 h2 h3 => (hg.block b (Nat.lt_of_lt_of_le hb h.size) (fun e => by
    rcases hr b e.symm with e | e | e
    · exact h1 e
    · exact h2 e
    · exact h3 e)).trans (h.block b hb h1 h2 h3)⟩
set_option maxRecDepth 100000 in
theorem Kept.cell {g O : Nat} {v : Value} {a w : World} (h : Kept g O v a w) {b j : Nat} {u : Value} (hc : a.cell? ⟨b, j, none⟩ = some u) (h1 : b ≠ g) (h2 : b ≠ O) (h3 : v.ownBlock ≠ some b) : w.cell? ⟨b, j, none⟩ = some u :=
  (World.cell?_of_block (h.block b (World.block_lt_of_cell? a ⟨b, j, none⟩ hc) h1 h2 h3)).trans hc
set_option maxRecDepth 100000 in
theorem Kept.below {g O B : Nat} {v : Value} {a w : World} (h : Kept g O v a w) (hB : B ≤ a.heap.size) (h1 : B ≤ g) (h2 : B ≤ O) (h3 : ∀ j, v.ownBlock = some j → B ≤ j) : Below B a w :=
  ⟨h.os, h.tape, h.output, h.size, fun b hb => h.block b (by omega) (by omega) (by omega) (fun e => by have := h3 b e; omega)⟩

section
variable {g O X C : Nat} {v st a0 a1 a2 : Value} {V : World}
/-- What is held inside a round. -/
abbrev Held (g O X : Nat) (v st a0 a1 a2 : Value) (V wx : World) : Prop :=
  wx.cell? ⟨X, 0, none⟩ = some a0 ∧ wx.cell? ⟨X, 1, none⟩ = some a1 ∧ wx.cell? ⟨X, 2, none⟩ = some a2 ∧ wx.cell? ⟨O, 0, none⟩ = some st ∧ (∀ j, wx.frozen? ⟨O, j, none⟩ = false) ∧ (∃ u, wx.cell? ⟨O, 1, none⟩ = some u) ∧ Hid (Kept g O v V wx)
set_option maxRecDepth 100000 in
theorem held_on {w1 w2 : World} {row : Option Nat} (h : Held g O X v st a0 a1 a2 V w1) (hg : w1.grownBy w2 row) (hr : ∀ j, row = some j → j = g ∨ v.ownBlock = some j) (hO : O ≠ g) (hX : X ≠ g) (hvO : v.ownBlock ≠ some O) (hvX : v.ownBlock ≠ some X) : Held g O X v st a0 a1 a2 V w2 := by
  obtain ⟨h0, h1, h2, h3, h4, ⟨u, h5⟩, h6⟩ := h
  have far : ∀ b j u, b ≠ g → v.ownBlock ≠ some b → w1.cell? ⟨b, j, none⟩ = some u → w2.cell? ⟨b, j, none⟩ = some u := fun b j u n1 n2 hc => hg.cell hc (fun e => by
    rcases hr b e.symm with e | e
    · exact n1 e
    · exact n2 e)
  have hOlt : O < w1.heap.size := World.block_lt_of_cell? w1 ⟨O, 0, none⟩ h3
  refine ⟨far _ _ _ hX hvX h0, far _ _ _ hX hvX h1, far _ _ _ hX hvX h2, far _ _ _ hO hvO h3, fun j => ?_, ⟨u, far _ _ _ hO hvO h5⟩, h6.out.on hg (fun j e => (hr j e).imp id .inr)⟩
  exact (World.frozen?_of_block (hg.block O hOlt (fun e => by
    rcases hr O e.symm with e | e
    · exact hO e
    · exact hvO e))).trans (h4 j)
set_option maxRecDepth 100000 in
theorem held_drew {w1 : World} (h : Held g O X v st a0 a1 a2 V w1) : Held g O X v st a0 a1 a2 V w1.drew := by
  obtain ⟨h0, h1, h2, h3, h4, h5, h6⟩ := h
  exact ⟨h0, h1, h2, h3, h4, h5, ⟨h6.out.os, h6.out.tape, h6.out.output, h6.out.size, h6.out.block⟩⟩
set_option maxRecDepth 100000 in
theorem held_alloc {w1 : World} (h : Held g O X v st a0 a1 a2 V w1) (o : Obj) (hO : O ≠ g) (hX : X ≠ g) (hvO : v.ownBlock ≠ some O) (hvX : v.ownBlock ≠ some X) : Held g O X v st a0 a1 a2 V (w1.alloc o) :=
  held_on h (World.grownBy_alloc w1 o none) (fun j e => by cases e) hO hX hvO hvX
set_option maxRecDepth 100000 in
theorem held_set {w1 : World} (h : Held g O X v st a0 a1 a2 V w1) (u : Value) (hOX : O ≠ X) : Held g O X v st a0 a1 a2 V (w1.setCell ⟨O, 1, none⟩ u) := by
  obtain ⟨h0, h1, h2, h3, h4, ⟨u', h5⟩, h6⟩ := h
  refine ⟨?_, ?_, ?_, ?_, fun j => ?_, ⟨u, ?_⟩, h6.out.on (grownBy_one w1 O 1 u) (fun j e => by injection e with e; exact .inr (.inl e.symm))⟩
  · rw [World.cell?_setCell_far _ _ _ _ (by simpa using hOX)]; exact h0
  · rw [World.cell?_setCell_far _ _ _ _ (by simpa using hOX)]; exact h1
  · rw [World.cell?_setCell_far _ _ _ _ (by simpa using hOX)]; exact h2
  · simp [go_sem, h3]
  · simp [go_sem, h4]
  · simp [go_sem, h5]

set_option maxRecDepth 100000 in
theorem cut_round {B cap n : Nat} {wa X1 w1 : World} {o : Obj} {v' : Value} {xs : List Value} {rl : List RsA} {r : RsA} (hst : wa.ownsRow B 3 1 (.slice (some ⟨g, 0, none⟩) n cap) n xs) (hX : X1.heap = (wa.alloc o).heap) (hg1 : X1.grownBy w1 v.ownBlock) (hres : ResRow C w1 v' (rl ++ [r])) (hown : ∀ j, v.ownBlock = some j → C ≤ j) (hgC : g < C) (hOC : O < C) (hgO : O ≠ g) :
    (w1.setCell ⟨O, 1, none⟩ v').ownsRow B 3 1 (.slice (some ⟨g, 0, none⟩) n cap) n xs ∧ ResRow C (w1.setCell ⟨O, 1, none⟩ v') v' (rl ++ [r]) := by
  have h1 : X1.ownsRow B 3 1 (.slice (some ⟨g, 0, none⟩) n cap) n xs := by
    obtain ⟨q, hq⟩ := hst.alloc o
    refine ⟨q, ?_⟩
    rw [hX]
    exact hq
  have h2 := h1.kept hg1 (.inr (fun e => by have := hown g e.symm; omega))
  exact ⟨h2.kept (grownBy_one w1 O 1 v') (.inr (by simp [Value.ownBlock]; omega)), hres.kept (grownBy_one w1 O 1 v') (fun j e => by injection e with e; omega)⟩
end

variable (sa la : Option Addr) (sc lc : Nat) (s : List Int) (l : List TxA)

set_option maxRecDepth 100000 in
set_option maxHeartbeats 4000000 in
theorem outcomeOf_any (w : World) (hs : IsInts w sa s) (h8 : s.length = 8) (hl : IsTxs w la l) (hE : chkL l = 0) :
    Calls Try.prog 47 #[.slice sa s.length sc, .slice la l.length lc] w fun e w' => ∃ g cap v rl, e = .returned (.agg #[.slice (some ⟨g, 0, none⟩) s.length cap, v]) ∧ w'.ownsRow w.heap.size 3 1 (.slice (some ⟨g, 0, none⟩) s.length cap) s.length ((serEnd s l).map (Value.int .i64)) ∧ ResRow w.heap.size w' v rl ∧ rl.map RsA.told = serRes s l ∧ Below w.heap.size w w' := by
  have hl8 := chkL_len hE
  obtain ⟨ad, rfl⟩ : ∃ ad, sa = some ad := by
    obtain ⟨b, off, h, _⟩ := hs 0 (by omega)
    exact ⟨_, h⟩
  have HS : Hid (IsInts w (some ad) s) := hs
  have HL : Hid (IsTxs w la l) := hl
  have HE : Hid (chkL l = 0) := hE
  have H8 : Hid (s.length = 8) := h8
  clear hs hl hE h8
  go_enter Try.func47, Try.ntmps47
  go_wp2_with fail
  refine (clone8_own s ad sc _ (by have := H8.out; omega) (HS.out.below (grow_alloc (Below.refl _ _) _))).mono ?_
  rintro e w1 ⟨cv, rfl, hcl, hb1⟩
  obtain ⟨g, cap, rfl, hg1, hg2⟩ := hcl.form (by have := H8.out; omega)
  have hg1' : w.heap.size + 1 ≤ g := by simpa using hg1
  have hst0 : w1.ownsRow w.heap.size 3 1 (.slice (some ⟨g, 0, none⟩) s.length cap) s.length (s.map (Value.int .i64)) := own_mono hcl (by simp)
  have wB1 : Below w.heap.size w w1 := grow_trans (grow_alloc (Below.refl _ _) _) hb1
  have t0 : w1.cell? ⟨w.heap.size, 0, none⟩ = some (.slice none 0 0) := ext_cell hb1 (by simp)
  have t1 : w1.cell? ⟨w.heap.size, 1, none⟩ = some (.slice none 0 0) := ext_cell hb1 (by simp)
  have tf : ∀ j, w1.frozen? ⟨w.heap.size, j, none⟩ = false := fun j => (hb1.frozen (p := ⟨w.heap.size, j, none⟩) (by simp)).trans (by simp)
  clear hb1 hcl hg1
  have UW : Below w1.heap.size w1 (w1.alloc (.cells #[.slice (some ⟨g, 0, none⟩) s.length cap, .slice none 0 0] 80)) := grow_alloc (Below.refl _ _) _
  have hwl : w.heap.size < w1.heap.size := World.block_lt_of_cell? w1 _ t0
  have p0 := ext_cell UW t0
  have p1 := ext_cell UW t1
  have pf : ∀ j, (w1.alloc (.cells #[.slice (some ⟨g, 0, none⟩) s.length cap, .slice none 0 0] 80)).frozen? ⟨w.heap.size, j, none⟩ = false := fun j => (UW.frozen (p := ⟨w.heap.size, j, none⟩) hwl).trans (tf j)
  have q0 : (w1.alloc (.cells #[.slice (some ⟨g, 0, none⟩) s.length cap, .slice none 0 0] 80)).cell? ⟨w1.heap.size, 0, none⟩ = some (.slice (some ⟨g, 0, none⟩) s.length cap) := by simp
  have q1 : (w1.alloc (.cells #[.slice (some ⟨g, 0, none⟩) s.length cap, .slice none 0 0] 80)).cell? ⟨w1.heap.size, 1, none⟩ = some (.slice none 0 0) := by simp
  have qf : ∀ j, (w1.alloc (.cells #[.slice (some ⟨g, 0, none⟩) s.length cap, .slice none 0 0] 80)).frozen? ⟨w1.heap.size, j, none⟩ = false := fun j => by simp
  have hstW : Hid ((w1.alloc (.cells #[.slice (some ⟨g, 0, none⟩) s.length cap, .slice none 0 0] 80)).ownsRow w.heap.size 3 1 (.slice (some ⟨g, 0, none⟩) s.length cap) s.length (s.map (Value.int .i64))) := hst0.alloc _
  have WB : Hid (Below w.heap.size w (w1.alloc (.cells #[.slice (some ⟨g, 0, none⟩) s.length cap, .slice none 0 0] 80))) := grow_trans wB1 UW
  have hWs : w1.heap.size + 1 ≤ (w1.alloc (.cells #[.slice (some ⟨g, 0, none⟩) s.length cap, .slice none 0 0] 80)).heap.size := by simp
  clear hst0 wB1 t0 t1 tf UW
  go_wp2
  generalize (w1.alloc (.cells #[.slice (some ⟨g, 0, none⟩) s.length cap, .slice none 0 0] 80)) = W at *
  generalize w1.heap.size = O at *
  go_loopw [7, 13] (fun _ i wr => ∃ (k : Nat) (v : Value) (rl : List RsA), k ≤ l.length ∧ i = .int .i64 k ∧ wr.cell? ⟨O, 0, none⟩ = some (.slice (some ⟨g, 0, none⟩) s.length cap) ∧ wr.cell? ⟨O, 1, none⟩ = some v ∧ (∀ j, wr.frozen? ⟨O, j, none⟩ = false) ∧ wr.cell? ⟨w.heap.size, 0, none⟩ = some (.slice none 0 0) ∧ wr.cell? ⟨w.heap.size, 1, none⟩ = some (.slice none 0 0) ∧ (∀ j, wr.frozen? ⟨w.heap.size, j, none⟩ = false) ∧ Hid (wr.ownsRow w.heap.size 3 1 (.slice (some ⟨g, 0, none⟩) s.length cap) s.length ((serEnd s (l.take k)).map (Value.int .i64))) ∧ Hid (ResRow (O + 1) wr v rl) ∧ Hid (rl.map RsA.told = serRes s (l.take k)) ∧ Hid (Below w.heap.size w wr) ∧ O + 1 ≤ wr.heap.size) (fun _ i _ => l.length - (intOf i).toNat)
  case atStart => exact ⟨0, _, [], Nat.zero_le _, rfl, q0, q1, qf, p0, p1, pf, hstW, resRow_nil _ _, rfl, WB, hWs⟩
  case round =>
    obtain ⟨k, v, rl, hk, rfl, o0, o1, of, b0, b1, bf, hst, hres, htold, hbl, hsz⟩ := hrel
    clear q0 q1 qf p0 p1 pf hstW WB hWs
    by_cases hlt : k < l.length
    · obtain ⟨b, off, rfl, hb, c0, c1, c2, hx⟩ := HL.out k hlt
      have d0 := ext_cell hbl.out c0
      have d1 := ext_cell hbl.out c1
      have d2 := ext_cell hbl.out c2
      have HX : Hid (IsX w (l.getD k x0)) := hx
      have HC : Hid (chkX (l.getD k x0) = 0) := chkL_at HE.out k hlt
      have HT1 : Hid (serEnd s (l.take (k + 1)) = aEnd (serEnd s (l.take k)) (l.getD k x0)) := serEnd_step s l k hlt
      have HT2 : Hid (serRes s (l.take (k + 1)) = serRes s (l.take k) ++ [(aDone (serEnd s (l.take k)) (l.getD k x0), aVals (serEnd s (l.take k)) (l.getD k x0))]) := serRes_step s l k hlt
      have hs1 : Hid ((serEnd s (l.take k)).length = s.length) := serEnd_len _ _
      have HR1 : Hid ((serRes s (l.take k)).length = k) := by show _ = _; rw [serRes_len, List.length_take]; omega
      clear c0 c1 c2 hx
      generalize serEnd s (l.take k) = s1 at *
      generalize serRes s (l.take k) = R1 at *
      generalize l.getD k x0 = x at *
      obtain ⟨ra, ga, sa, rc, gc, sc', rs, gs, ss⟩ := x
      simp only at d0 d1 d2
      have CA : Hid (∀ w', Below w.heap.size w w' → w'.ownsRow w.heap.size 3 1 (.slice (some ⟨g, 0, none⟩) s.length cap) s.length (s1.map (Value.int .i64)) → Calls Try.prog 75 #[.slice (some ⟨g, 0, none⟩) s.length cap, .agg #[.slice ra rs.length rc, .slice ga gs.length gc, .slice sa ss.length sc']] w' fun e w'' => ∃ va vc, e = .returned (.agg #[.bool (aDone s1 ⟨ra, ga, sa, rc, gc, sc', rs, gs, ss⟩), .slice va (aVals s1 ⟨ra, ga, sa, rc, gc, sc', rs, gs, ss⟩).length vc]) ∧ IsAt w'.heap.size w''.heap.size w'' va (aVals s1 ⟨ra, ga, sa, rc, gc, sc', rs, gs, ss⟩) ∧ w''.ownsRow w.heap.size 3 1 (.slice (some ⟨g, 0, none⟩) s.length cap) s.length ((aEnd s1 ⟨ra, ga, sa, rc, gc, sc', rs, gs, ss⟩).map (Value.int .i64)) ∧ w'.grownBy w'' (some g)) := fun w' h1 h2 => by
        have h := apply_any ra ga sa rc gc sc' rs gs ss s1 g cap w.heap.size w w' HX.out.t h1 (Nat.le_refl _) (by rw [hs1.out]; exact h2) (by rw [hs1.out]; exact H8.out) HC.out
        rw [hs1.out] at h
        exact h
      generalize aDone s1 ⟨ra, ga, sa, rc, gc, sc', rs, gs, ss⟩ = D at *
      generalize aVals s1 ⟨ra, ga, sa, rc, gc, sc', rs, gs, ss⟩ = Z at *
      generalize aEnd s1 ⟨ra, ga, sa, rc, gc, sc', rs, gs, ss⟩ = E1 at *
      have hrl : rl.length ≤ 100 := by
        have h := congrArg List.length htold.out
        rw [List.length_map, HR1.out] at h
        omega
      have hgO : O ≠ g := by omega
      have hown : ∀ j, v.ownBlock = some j → O + 1 ≤ j ∧ j < wr.heap.size := fun j hj => hres.out.1.lt j hj
      have hvO : v.ownBlock ≠ some O := fun e => by have := (hown O e).1; omega
      have hvX : v.ownBlock ≠ some wr.heap.size := fun e => by have := (hown _ e).2; omega
      have hvw : v.ownBlock ≠ some w.heap.size := fun e => by have := (hown _ e).1; omega
      go_upto_region 5 with fail
      have UV : Below wr.heap.size wr (wr.alloc (.cells #[.slice ra rs.length rc, .slice ga gs.length gc, .slice sa ss.length sc'] 38)) := grow_alloc (Below.refl _ _) _
      have x0' : (wr.alloc (.cells #[.slice ra rs.length rc, .slice ga gs.length gc, .slice sa ss.length sc'] 38)).cell? ⟨wr.heap.size, 0, none⟩ = some (.slice ra rs.length rc) := by simp
      have x1' : (wr.alloc (.cells #[.slice ra rs.length rc, .slice ga gs.length gc, .slice sa ss.length sc'] 38)).cell? ⟨wr.heap.size, 1, none⟩ = some (.slice ga gs.length gc) := by simp
      have x2' : (wr.alloc (.cells #[.slice ra rs.length rc, .slice ga gs.length gc, .slice sa ss.length sc'] 38)).cell? ⟨wr.heap.size, 2, none⟩ = some (.slice sa ss.length sc') := by simp
      have o0V := ext_cell UV o0
      have o1V : Hid ((wr.alloc (.cells #[.slice ra rs.length rc, .slice ga gs.length gc, .slice sa ss.length sc'] 38)).cell? ⟨O, 1, none⟩ = some v) := ext_cell UV o1
      have ofV : ∀ j, (wr.alloc (.cells #[.slice ra rs.length rc, .slice ga gs.length gc, .slice sa ss.length sc'] 38)).frozen? ⟨O, j, none⟩ = false := fun j => (UV.frozen (p := ⟨O, j, none⟩) (by show O < _; omega)).trans (of j)
      have b0V := ext_cell UV b0
      have b1V := ext_cell UV b1
      have bfV : ∀ j, (wr.alloc (.cells #[.slice ra rs.length rc, .slice ga gs.length gc, .slice sa ss.length sc'] 38)).frozen? ⟨w.heap.size, j, none⟩ = false := fun j => (UV.frozen (p := ⟨w.heap.size, j, none⟩) (by show w.heap.size < _; omega)).trans (bf j)
      have hstV : Hid ((wr.alloc (.cells #[.slice ra rs.length rc, .slice ga gs.length gc, .slice sa ss.length sc'] 38)).ownsRow w.heap.size 3 1 (.slice (some ⟨g, 0, none⟩) s.length cap) s.length (s1.map (Value.int .i64))) := hst.out.alloc _
      have hresV : Hid (ResRow (O + 1) (wr.alloc (.cells #[.slice ra rs.length rc, .slice ga gs.length gc, .slice sa ss.length sc'] 38)) v rl) := hres.out.below UV
      have hblV : Hid (Below w.heap.size w (wr.alloc (.cells #[.slice ra rs.length rc, .slice ga gs.length gc, .slice sa ss.length sc'] 38))) := grow_trans hbl.out UV
      have hszV : wr.heap.size + 1 = (wr.alloc (.cells #[.slice ra rs.length rc, .slice ga gs.length gc, .slice sa ss.length sc'] 38)).heap.size := by simp
      clear UV o0 o1 of b0 b1 bf hst hres hbl d0 d1 d2
      generalize (wr.alloc (.cells #[.slice ra rs.length rc, .slice ga gs.length gc, .slice sa ss.length sc'] 38)) = V at *
      generalize hXe : wr.heap.size = X at *
      have hXO : O ≠ X := by omega
      have hXg : X ≠ g := by omega
      have HS0 : Hid (Held g O X v (.slice (some ⟨g, 0, none⟩) s.length cap) (.slice ra rs.length rc) (.slice ga gs.length gc) (.slice sa ss.length sc') V V) := ⟨x0', x1', x2', o0V, ofV, ⟨v, o1V.out⟩, Kept.refl _ _ _ _⟩
      have hnv : Hid (∀ (lo : Nat) (wz : World) va, X ≤ lo → IsAt lo wz.heap.size wz va Z → Z ≠ [] → ∀ ad, va = some ad → v.ownBlock ≠ some ad.block) := fun lo wz va hlo h hne ad ha e => by
        obtain ⟨b, off, ha', h1, _, _⟩ := h 0 (List.length_pos_iff.2 hne)
        rw [ha] at ha'
        injection ha' with ha'
        subst ha'
        have := (hown _ e).2
        simp at this
        omega
      have HB0 : Hid (V.cell? ⟨w.heap.size, 0, none⟩ = some (.slice none 0 0) ∧ V.cell? ⟨w.heap.size, 1, none⟩ = some (.slice none 0 0) ∧ ∀ j, V.frozen? ⟨w.heap.size, j, none⟩ = false) := ⟨b0V, b1V, bfV⟩
      clear b0V b1V bfV
      have o1V' := o1V.out
      have hOV : Hid (O + 1 ≤ V.drew.heap.size) := by show O + 1 ≤ V.heap.size; omega
      have hresVd : Hid (ResRow (O + 1) V.drew v rl) := hresV.out.below (grow_drew (Below.refl _ _))
      have hXV : Hid (X ≤ V.drew.heap.size) := by show X ≤ V.heap.size; omega
      have hCs : Hid (∀ (wa : World) {o : Obj}, V.drew.grownBy wa (some g) → O + 1 ≤ (wa.alloc o).heap.size) := fun wa o h => by
        have := h.size
        have h2 : O + 1 ≤ V.drew.heap.size := hOV.out
        simp only [World.size_alloc]
        omega
      go_region_law (first
          | (refine step_append_rs (by rfl) _ _ (by rfl) (O + 1) v rl ⟨va, vc, D, Z⟩ (by rfl) (hra.out.below (grow_alloc (Below.refl _ _) _)) ⟨wa.heap.size, 0, none⟩ 1 (by rfl) (news_rs wa D _ _ rfl) (IsAt.widen (IsAt.below hva (grow_alloc (Below.refl _ _) _)) hOV.out (by simp)) (hnv.out _ _ _ hXV.out hva) hrl (hCs.out wa hga) ?_; intro v' w1 hres1 hg1; obtain ⟨g', cap', rfl, _, _⟩ := hres1.1.form (by simp); have oc : w1.cell? ⟨O, 1, none⟩ = some v := hg1.cell (ob _) (fun e => hvO e.symm); have Hb : Hid (Held g O X v (.slice (some ⟨g, 0, none⟩) s.length cap) (.slice ra rs.length rc) (.slice ga gs.length gc) (.slice sa ss.length sc') V w1) := held_on (held_alloc Ha.out _ hgO hXg hvO hvX) hg1 (fun j e => .inr e) hgO hXg hvO hvX; have hfb := Hb.out.2.2.2.2.1)
          | (go_simp; go_at_call 75; refine (CA.out _ hblV.out.drew hstV.out).mono ?_; rintro e wa ⟨va, vc, rfl, hva, hst2, hga⟩; have oa : wa.cell? ⟨O, 1, none⟩ = some v := hga.cell o1V.out (by simp; omega); have ob : ∀ o, (wa.alloc o).cell? ⟨O, 1, none⟩ = some v := (fun o => ext_cell (grow_alloc (Below.refl _ _) o) oa); have hra : Hid (ResRow (O + 1) wa v rl) := hresVd.out.kept (row := some g) hga (fun j e => by injection e with e; omega); have Ha : Hid (Held g O X v (.slice (some ⟨g, 0, none⟩) s.length cap) (.slice ra rs.length rc) (.slice ga gs.length gc) (.slice sa ss.length sc') V wa) := held_on (held_drew HS0.out) hga (fun j e => by injection e with e; exact .inl e.symm) hgO hXg hvO hvX; go_wp2_with fail))
      all_goals (
        have hL : (rl ++ [(⟨va, vc, D, Z⟩ : RsA)]).length = rl.length + 1 := by simp
        rw [hL] at hres1
        obtain ⟨_, _, _, n0, nf, _, hkp0⟩ := held_set Hb.out (.slice (some ⟨g', 0, none⟩) (rl.length + 1) cap') hXO
        have n1 : (w1.setCell ⟨O, 1, none⟩ (.slice (some ⟨g', 0, none⟩) (rl.length + 1) cap')).cell? ⟨O, 1, none⟩ = some (.slice (some ⟨g', 0, none⟩) (rl.length + 1) cap') := by simp [go_sem, oc]
        obtain ⟨hst3, hres3⟩ := cut_round (g := g) (O := O) (C := O + 1) (v := v) hst2 rfl hg1 hres1 (fun j e => (hown j e).1) (by omega) (by omega) hgO
        have hkp := hkp0.out
        have m0 := hkp.cell HB0.out.1 (by omega) (by omega) hvw
        have m1 := hkp.cell HB0.out.2.1 (by omega) (by omega) hvw
        have mf : ∀ j, (w1.setCell ⟨O, 1, none⟩ (.slice (some ⟨g', 0, none⟩) (rl.length + 1) cap')).frozen? ⟨w.heap.size, j, none⟩ = false := fun j => (World.frozen?_of_block (a := ⟨w.heap.size, j, none⟩) (hkp.block w.heap.size (by omega) (by omega) (by omega) hvw)).trans (HB0.out.2.2 j)
        have hst4 : Hid ((w1.setCell ⟨O, 1, none⟩ (.slice (some ⟨g', 0, none⟩) (rl.length + 1) cap')).ownsRow w.heap.size 3 1 (.slice (some ⟨g, 0, none⟩) s.length cap) s.length ((serEnd s (l.take (k + 1))).map (Value.int .i64))) := by rw [HT1.out]; exact hst3
        have hres4 : Hid (ResRow (O + 1) (w1.setCell ⟨O, 1, none⟩ (.slice (some ⟨g', 0, none⟩) (rl.length + 1) cap')) (.slice (some ⟨g', 0, none⟩) (rl.length + 1) cap') (rl ++ [⟨va, vc, D, Z⟩])) := hres3
        have ht4 : Hid ((rl ++ [(⟨va, vc, D, Z⟩ : RsA)]).map RsA.told = serRes s (l.take (k + 1))) := by show _ = _; rw [HT2.out, List.map_append, htold.out]; rfl
        have hbl4 : Hid (Below w.heap.size w (w1.setCell ⟨O, 1, none⟩ (.slice (some ⟨g', 0, none⟩) (rl.length + 1) cap'))) := hblV.out.trans (hkp.below (by omega) (by omega) (by omega) (fun j e => by have := (hown j e).1; omega))
        have hsz4 : O + 1 ≤ (w1.setCell ⟨O, 1, none⟩ (.slice (some ⟨g', 0, none⟩) (rl.length + 1) cap')).heap.size := by have := hkp.size; omega
        clear hkp hkp0 hst3 hres3 hg1 hres1 Hb hst2 hga hva oa ob oc hra Ha hfb o1V' o1V hstV hresV hblV hresVd HS0 HB0 x0' x1' x2' o0V ofV hCs hnv CA hL hown
        generalize (w1.setCell ⟨O, 1, none⟩ (.slice (some ⟨g', 0, none⟩) (rl.length + 1) cap')) = WF at *
        go_wp2
        go_roundw
        case rel => exact ⟨k + 1, _, rl ++ [⟨va, vc, D, Z⟩], by omega, by go_num, n0, n1, nf, m0, m1, mf, hst4, hres4, ht4, hbl4, hsz4⟩
        case measure => simp [intOf]; omega)
    · have hkk : k = l.length := by omega
      have hfin : Hid (wr.ownsRow w.heap.size 3 1 (.slice (some ⟨g, 0, none⟩) s.length cap) s.length ((serEnd s l).map (Value.int .i64))) := by
        have h := hst.out
        rw [hkk, List.take_of_length_le (Nat.le_refl _)] at h
        exact h
      have htl : Hid (rl.map RsA.told = serRes s l) := by
        have h := htold.out
        rw [hkk, List.take_of_length_le (Nat.le_refl _)] at h
        exact h
      obtain ⟨xa, xc, hv⟩ : ∃ xa xc, v = .slice xa rl.length xc := by
        rcases hres.out.1.2 with ⟨h, h0⟩ | ⟨g2, cap2, cur, h, _⟩
        · exact ⟨none, 0, by rw [h, h0]⟩
        · exact ⟨_, _, h⟩
      subst hv
      have hlt' : ¬ k < l.length := hlt
      clear hst htold
      go_wp2
      have r0 : ((wr.setCell ⟨w.heap.size, 0, none⟩ (.slice (some ⟨g, 0, none⟩) s.length cap)).setCell ⟨w.heap.size, 1, none⟩ (.slice xa rl.length xc)).cell? ⟨w.heap.size, 0, none⟩ = some (.slice (some ⟨g, 0, none⟩) s.length cap) := by simp [go_sem, b0]
      have r1 : ((wr.setCell ⟨w.heap.size, 0, none⟩ (.slice (some ⟨g, 0, none⟩) s.length cap)).setCell ⟨w.heap.size, 1, none⟩ (.slice xa rl.length xc)).cell? ⟨w.heap.size, 1, none⟩ = some (.slice xa rl.length xc) := by simp [go_sem, b1]
      refine bodyPost_ret (v := .agg #[.slice (some ⟨g, 0, none⟩) s.length cap, .slice xa rl.length xc]) (by simp [results, Try.results47, go_sem, r0, r1]) rfl ⟨g, cap, _, rl, rfl, ?_, ?_, htl.out, ?_⟩
      · exact (hfin.out.kept (grownBy_one wr w.heap.size 0 _) (.inr (by simp [Value.ownBlock]; omega))).kept (grownBy_one _ w.heap.size 1 _) (.inr (by simp [Value.ownBlock]; omega))
      · exact resRow_mono ((hres.out.kept (grownBy_one wr w.heap.size 0 _) (fun j e => by injection e with e; omega)).kept (grownBy_one _ w.heap.size 1 _) (fun j e => by injection e with e; omega)) (by omega)
      · exact grow_set (grow_set hbl.out (Nat.le_refl _) _) (Nat.le_refl _) _
end Go.Proofs.Ytcgpkonfneofdaa
