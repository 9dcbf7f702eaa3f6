/-
  Wire: the document's eye. Wire: what is kept while the document reads. Wire: the document's PlanFrom.
  Conditions: those that each theorem states.
-/
import Derived.Test.YtcgpkonfneofdaaWirMF
import Derived.Test.YtcgpkonfneofdaaWirMG
import Derived.Test.YtcgpkonfneofdaaWirMD
import Derived.WalkKit
import Derived.WalkSpells
import Derived.WalkLawsBesides
import Derived.Defers
import Derived.Recover
import Derived.ProofKit
import Derived.Deep.RegionHeld
import Derived.Deep.RegionHeld3
import Derived.Deep.RegionLaw
import Derived.Deep.DeepCutAuto
import Derived.Deep.QuietTactic
import Derived.BigQuiet
import Derived.Maps.AppendAt
import Derived.Lib.SliceRun
import Derived.Deep.AppendLies
namespace Go.Proofs.Ytcgpkonfneofdaa
open Go.RowKit

theorem zN_byt {bs : List Int} (h : Byt bs) : 0 ≤ (zN bs).1 ∧ (zN bs).1 < 256 := by
  cases bs with
  | nil => exact ⟨Int.le_refl _, by decide⟩
  | cons b r => exact h b (by simp)
set_option maxRecDepth 100000 in
set_option maxHeartbeats 1000000 in
/-- The document's eye: one byte, or 0. -/
theorem zByte_any (P : Nat) (bs : List Int) (w : World) (h : RdS P w bs) : Calls Try.prog 66 #[.pointer (some ⟨P, 0, none⟩)] w fun e w' => e = .returned (.int .i64 (zN bs).1) ∧ RdS P w' (zN bs).2 ∧ w.grownBy w' (some P) := by
  have h0 := h
  cases bs with
  | nil =>
    obtain ⟨s, hc, hf, hs⟩ := h
    have hn : (s.toList == ([] : List UInt8)) = true := by rw [lst_nil, hs]; rfl
    clear hs
    have hn2 : s.toList = [] := by simpa using hn
    have H0 := hid h0
    clear h0
    go_enter Try.func66, Try.ntmps66
    go_wp2
    go_ret
    exact ⟨rfl, H0.out, World.grownBy.refl _ _⟩
  | cons b r =>
    obtain ⟨s, hc, hf, hs⟩ := h
    have hn : (s.toList == ([] : List UInt8)) = false := by rw [lst_nil, hs]; rfl
    obtain ⟨h0', hb, hr⟩ := lst_cons hs
    have hi : (0 : Int) < (s.size : Int) := by omega
    have h1 : (1 : Int) ≤ (s.size : Int) := by omega
    have hB : b < 256 ∧ 0 ≤ b := by have := (s[0]'h0').toNat_lt; omega
    have hwr : IntKind.i64.wrap b = b := wrap_i64_small (by omega) (by omega)
    clear hs h0
    have hn2 : ¬ s.toList = [] := by simpa using hn
    go_enter Try.func66, Try.ntmps66
    go_wp2
    go_ret
    refine ⟨?_, ⟨_, set_here hc, by simpa using hf, hr⟩, gb_set _ _ _⟩
    show _ = Ending.returned (.int .i64 b)
    first | rfl | (rw [hb, hwr])
theorem fz_kept {w w' : World} {row : Option Nat} {b : Nat} (hg : w.grownBy w' row) (hne : some b ≠ row) (hb : b < w.heap.size) (hc : ∀ i, w.frozen? ⟨b, i, none⟩ = false) : ∀ i, w'.frozen? ⟨b, i, none⟩ = false := fun i => (World.frozen?_of_block (a := ⟨b, i, none⟩) (hg.block b hb hne)).trans (hc i)
/-- What is kept beside the eye's cell and the transaction's. -/
structure Kep (P X : Nat) (w w' : World) : Prop where
  os : w'.os = w.os
  tape : w'.tape = w.tape
  output : w'.output = w.output
  size : w.heap.size ≤ w'.heap.size
  block : ∀ b, b < w.heap.size → b ≠ P → b ≠ X → w'.heap[b]? = w.heap[b]?
theorem Kep.refl (P X : Nat) (w : World) : Kep P X w w := ⟨rfl, rfl, rfl, Nat.le_refl _, fun _ _ _ _ => rfl⟩
theorem Kep.step {P X : Nat} {w a b : World} {row : Option Nat} (h : Kep P X w a) (hg : a.grownBy b row) (hr : ∀ j, row = some j → j = P ∨ j = X ∨ w.heap.size ≤ j) : Kep P X w b :=
  ⟨hg.os.trans h.os, hg.tape.trans h.tape, hg.output.trans h.output, Nat.le_trans h.size hg.size, fun i hi hP hX => (hg.block i (Nat.lt_of_lt_of_le hi h.size) (fun e => by rcases hr i e.symm with h1 | h1 | h1 <;> omega)).trans (h.block i hi hP hX)⟩
theorem Kep.gb {P X : Nat} {w0 w w' : World} (h : Kep P X w w') (hg : w0.grownBy w (some P)) (hX : w0.heap.size ≤ X) : w0.grownBy w' (some P) :=
  ⟨h.os.trans hg.os, h.tape.trans hg.tape, h.output.trans hg.output, Nat.le_trans hg.size h.size, fun b hb hP => (h.block b (Nat.lt_of_lt_of_le hb hg.size) (fun e => hP (by rw [e])) (by omega)).trans (hg.block b hb hP)⟩
theorem Kep.ints {P X lo hi : Nat} {w w' : World} {a : Option Addr} {zs : List Int} (h : Kep P X w w') (hs : IsInts w a zs) (hi : InBlocks lo hi a) (h1 : P < lo) (h2 : X < lo) : IsInts w' a zs := fun i hlt => by
  obtain ⟨b, off, ha, hb, hc⟩ := hs i hlt
  have := (hi _ ha).1
  simp only at this
  exact ⟨b, off, ha, Nat.lt_of_lt_of_le hb h.size, (World.cell?_of_block (a := ⟨b, off + i, none⟩) (h.block b hb (by omega) (by omega))).trans hc⟩
theorem Kep.gs {P X lo hi : Nat} {w w' : World} {a : Option Addr} {zs : List Gd} (h : Kep P X w w') (hs : IsGs w a zs) (hi : InBlocks lo hi a) (h1 : P < lo) (h2 : X < lo) : IsGs w' a zs := fun i hlt => by
  obtain ⟨b, off, ha, hb, c0, c1, c2, c3, c4⟩ := hs i hlt
  have := (hi _ ha).1
  simp only at this
  have e : ∀ j, w'.cell? ⟨b, j, none⟩ = w.cell? ⟨b, j, none⟩ := fun j => World.cell?_of_block (a := ⟨b, j, none⟩) (h.block b hb (by omega) (by omega))
  exact ⟨b, off, ha, Nat.lt_of_lt_of_le hb h.size, (e _).trans c0, (e _).trans c1, (e _).trans c2, (e _).trans c3, (e _).trans c4⟩
theorem fz_set (w : World) (R i : Nat) (v : Value) (b j : Nat) : (w.setCell ⟨R, i, none⟩ v).frozen? ⟨b, j, none⟩ = w.frozen? ⟨b, j, none⟩ := by simp
set_option maxRecDepth 100000 in
set_option maxHeartbeats 1500000 in
/-- The document's operand. -/
theorem zOper_any (P : Nat) (bs : List Int) (w : World) (h : RdS P w bs) :
    Calls Try.prog 67 #[.pointer (some ⟨P, 0, none⟩)] w fun e w' => e = .returned (.agg #[.int .i64 (zO bs).1.1, .int .i64 (zO bs).1.2]) ∧ RdS P w' (zO bs).2 ∧ w.grownBy w' (some P) := by
  have hP := h.lt
  have HB : Hid (Byt bs) := h.byt
  obtain ⟨W, hWe⟩ : ∃ W, W = w.alloc (.cells #[.int .i64 0, .int .i64 0] 45) := ⟨_, rfl⟩
  have HWE : Hid (W = w.alloc (.cells #[.int .i64 0, .int .i64 0] 45)) := hWe
  have H0 : Hid (RdS P W bs) := by subst hWe; exact h.alloc _
  have G0 : Hid (w.grownBy W (some P)) := by subst hWe; exact World.grownBy_alloc _ _ _
  have S0 : Hid (w.heap.size < W.heap.size) := by subst hWe; show _ < _; simp
  have r0 : W.cell? ⟨w.heap.size, 0, none⟩ = some (.int .i64 0) := by subst hWe; simp
  have r1 : W.cell? ⟨w.heap.size, 1, none⟩ = some (.int .i64 0) := by subst hWe; simp
  have rf : ∀ i, W.frozen? ⟨w.heap.size, i, none⟩ = false := by subst hWe; intro i; simp
  have hR : w.heap.size ≠ P := by omega
  have HZ : Hid (zO bs = (((zN bs).1, sgn (valN (zK zN 8 (zN bs).2).1)), (zK zN 8 (zN bs).2).2)) := rfl
  clear h hWe
  go_enter Try.func67, Try.ntmps67
  go_upto_region 1 with fail
  rw [← HWE.out]
  go_wp2_with fail
  refine (zByte_any P bs _ H0.out).mono ?_
  rintro e w1 ⟨rfl, h1, g⟩
  generalize (zN bs).1 = kd at *
  generalize (zN bs).2 = q at *
  have H1 : Hid (RdS P w1 q) := h1
  have G1 : Hid (w.grownBy w1 (some P)) := G0.out.trans g
  have r0 := gb_cell g hR r0
  have r1 := gb_cell g hR r1
  have rf := gb_frozen g hR S0.out rf
  have S1 : w.heap.size < w1.heap.size := Nat.lt_of_lt_of_le S0.out g.size
  clear h1 g
  obtain ⟨V, hVe⟩ : ∃ V, V = w1.alloc (.cells #[.int .i64 kd, .int .i64 0] 45) := ⟨_, rfl⟩
  have HVE : Hid (V = w1.alloc (.cells #[.int .i64 kd, .int .i64 0] 45)) := hVe
  have H2 : Hid (RdS P V q) := by subst hVe; exact H1.out.alloc _
  have G2 : Hid (w.grownBy V (some P)) := by subst hVe; exact G1.out.trans (World.grownBy_alloc _ _ _)
  have o0 : V.cell? ⟨w1.heap.size, 0, none⟩ = some (.int .i64 kd) := by subst hVe; simp
  have o1 : V.cell? ⟨w1.heap.size, 1, none⟩ = some (.int .i64 0) := by subst hVe; simp
  have of : ∀ i, V.frozen? ⟨w1.heap.size, i, none⟩ = false := by subst hVe; intro i; simp
  have r0 : V.cell? ⟨w.heap.size, 0, none⟩ = some (.int .i64 0) := by subst hVe; exact ext_cell (grow_alloc (Below.refl _ _) _) r0
  have r1 : V.cell? ⟨w.heap.size, 1, none⟩ = some (.int .i64 0) := by subst hVe; exact ext_cell (grow_alloc (Below.refl _ _) _) r1
  have rf : ∀ i, V.frozen? ⟨w.heap.size, i, none⟩ = false := by subst hVe; intro i; exact ((grow_alloc (Below.refl w1.heap.size w1) (.cells #[.int .i64 kd, .int .i64 0] 45)).frozen (p := ⟨w.heap.size, i, none⟩) S1).trans (rf i)
  have hO : w1.heap.size ≠ P := by omega
  have hOR : w1.heap.size ≠ w.heap.size := by omega
  have hOV : Hid (w1.heap.size < V.heap.size) := by subst hVe; show _ < _; simp
  clear hVe H1 G1
  go_upto_region 2 with fail
  rw [← HVE.out]
  have hwO : w.heap.size ≤ w1.heap.size := by omega
  have hS1V : Hid (w.heap.size < V.heap.size) := by have := hOV.out; show _ < _; omega
  clear HVE S1
  generalize w1.heap.size = O at *
  go_wp2
  go_loopw [4, 5] (fun i _ wr => ∃ (k : Nat) (l r : List Int), k ≤ 8 ∧ i = .int .i64 k ∧ l.length = k ∧ Hid (zK zN 8 q = (l ++ (zK zN (8 - k) r).1, (zK zN (8 - k) r).2)) ∧ Hid (Byt l) ∧ wr.cell? ⟨O, 0, none⟩ = some (.int .i64 kd) ∧ wr.cell? ⟨O, 1, none⟩ = some (.int .i64 (IntKind.i64.wrap (valN l))) ∧ (∀ i, wr.frozen? ⟨O, i, none⟩ = false) ∧ wr.cell? ⟨w.heap.size, 0, none⟩ = some (.int .i64 0) ∧ wr.cell? ⟨w.heap.size, 1, none⟩ = some (.int .i64 0) ∧ (∀ i, wr.frozen? ⟨w.heap.size, i, none⟩ = false) ∧ Hid (O < wr.heap.size) ∧ Hid (RdS P wr r) ∧ Hid (w.grownBy wr (some P))) (fun i _ _ => 8 - (intOf i).toNat)
  case atStart => exact ⟨0, [], q, by omega, rfl, rfl, rfl, fun x hx => (by cases hx), o0, o1, of, r0, r1, rf, hOV, H2, G2⟩
  case round =>
    clear o0 o1 of r0 r1 rf H2 G2 hOV
    obtain ⟨k, l, r, hk, rfl, hl, hK, hBl, o0, o1, of, r0, r1, rf, hOV, hR2, hG⟩ := hrel
    by_cases hlt : k < 8
    · obtain ⟨V0, hV0⟩ : ∃ V0, V0 = valN l := ⟨_, rfl⟩
      have hVs : 0 ≤ V0 ∧ V0 < 72057594037927936 := by rw [hV0]; exact valN_small hBl.out (by omega)
      have hw : IntKind.i64.wrap V0 = V0 := wrap_i64_small (by omega) (by omega)
      rw [← hV0, hw] at o1
      have hb := zN_byt hR2.out.byt
      have HN : Hid (valN (l ++ [(zN r).1]) = V0 * 256 + (zN r).1) := by show _ = _; rw [valN_snoc, hV0]
      have HK2 : Hid (zK zN 8 q = ((l ++ [(zN r).1]) ++ (zK zN (8 - (k + 1)) (zN r).2).1, (zK zN (8 - (k + 1)) (zN r).2).2)) := by
        show _ = _
        rw [hK.out]
        obtain ⟨j, hj⟩ : ∃ j, 8 - k = j + 1 := ⟨8 - k - 1, by omega⟩
        have hj2 : 8 - (k + 1) = j := by omega
        rw [hj, hj2]
        simp [zK]
      have HBL : Hid (Byt (l ++ [(zN r).1])) := fun x hx => by
        rcases List.mem_append.1 hx with h | h
        · exact hBl.out x h
        · simp only [List.mem_singleton] at h; rw [h]; exact hb
      clear hK hBl hV0 hw
      go_upto_region 5 with fail
      go_wp2_with fail
      refine (zByte_any P r _ hR2.out).mono ?_
      rintro e w3 ⟨rfl, h3, g⟩
      have HO : Hid (bits .or .i64 (IntKind.i64.wrap (V0 * 256)) (zN r).1 = IntKind.i64.wrap (V0 * 256 + (zN r).1)) := or_i64 hVs.1 hVs.2 hb.1 hb.2
      generalize (zN r).1 = b at *
      generalize (zN r).2 = r' at *
      have o0 := gb_cell g hO o0
      have o1 := gb_cell g hO o1
      have of := gb_frozen g hO hOV.out of
      have rf := gb_frozen g hR (Nat.lt_of_le_of_lt hwO hOV.out) rf
      have r0 := gb_cell g hR r0
      have r1 := gb_cell g hR r1
      have H3 : Hid (RdS P w3 r') := h3
      have G3 : Hid (w.grownBy w3 (some P)) := hG.out.trans g
      have hOV3 : Hid (O < w3.heap.size) := Nat.lt_of_lt_of_le hOV.out g.size
      clear h3 g hR2 hG hOV
      go_wp2
      go_roundw
      case rel =>
        refine ⟨k + 1, l ++ [b], r', by omega, by go_num, by simp [hl], HK2, HBL, set_off (by decide) o0, ?_, fun i => ?_, ?_, ?_, fun i => ?_, ?_, H3.out.set hO, gb_own G3.out hwO 1 _⟩
        · rw [set_here o1, HN.out]
          rw [← IntWalk.i64_left (V0 * 256)]
          exact congrArg (fun x => some (Value.int .i64 x)) HO.out
        · exact (fz_set _ _ _ _ _ _).trans (of i)
        · exact gb_cell (gb_one _ _ _ _) (fun e => hOR e.symm) r0
        · exact gb_cell (gb_one _ _ _ _) (fun e => hOR e.symm) r1
        · exact (fz_set _ _ _ _ _ _).trans (rf i)
        · exact Nat.lt_of_lt_of_le hOV3.out (gb_one _ _ _ _).size
      case measure => simp [intOf]; omega
    · have hk8 : k = 8 := by omega
      subst hk8
      have hE : IntKind.i64.wrap (valN l) = sgn (valN l) := valN_eight hBl.out hl
      rw [hE] at o1
      have HE : Hid (zK zN 8 q = (l, r)) := by
        show _ = _
        rw [hK.out]
        simp [zK]
      clear hK hE
      obtain ⟨y0, y1⟩ := put2 (.int .i64 kd) (.int .i64 (sgn (valN l))) r0 r1
      go_wp2_with fail
      refine bodyPost_ret (v := .agg #[.int .i64 kd, .int .i64 (sgn (valN l))]) (by simp [results, Try.results67, go_sem, y0, y1]) rfl ?_
      rw [HZ.out, HE.out]
      exact ⟨rfl, (hR2.out.set hR).set hR, gb_own (gb_own hG.out (Nat.le_refl _) 0 _) (Nat.le_refl _) 1 _⟩
end Go.Proofs.Ytcgpkonfneofdaa

namespace Go.Proofs.Ytcgpkonfneofdaa
open Go.RowKit

theorem row_kept2 {w w' : World} {base E size n : Nat} {v : Value} {xs : List Value} {row : Option Nat} (h : w.ownsRow base E size v n xs) (hg : w.grownBy w' row) (hne : ∀ j, v.ownBlock = some j → row ≠ some j) : w'.ownsRow base E size v n xs := by
  refine h.kept hg ?_
  cases ho : v.ownBlock with
  | none => exact .inl rfl
  | some j => exact .inr (fun e => hne j ho e.symm)
/-- The transaction that is being read, its list that grows, and what is kept. -/
structure St3 (P X : Nat) (w2 cur : World) (r : List Int) (u0 u1 u2 : Value) (E size : Nat) (v : Value) (n : Nat) (xs : List Value) : Prop where
  k : Kep P X w2 cur
  r : RdS P cur r
  c0 : cur.cell? ⟨X, 0, none⟩ = some u0
  c1 : cur.cell? ⟨X, 1, none⟩ = some u1
  c2 : cur.cell? ⟨X, 2, none⟩ = some u2
  f : ∀ i, cur.frozen? ⟨X, i, none⟩ = false
  lt : X < cur.heap.size
  row : cur.ownsRow w2.heap.size E size v n xs
theorem St3.step {P X : Nat} {w2 cur c2 : World} {r r' : List Int} {u0 u1 u2 : Value} {E size : Nat} {v : Value} {n : Nat} {xs : List Value} {row : Option Nat} (h : St3 P X w2 cur r u0 u1 u2 E size v n xs) (hg : cur.grownBy c2 row) (hr : RdS P c2 r') (h1 : some X ≠ row) (h2 : ∀ j, row = some j → j = P ∨ w2.heap.size ≤ j) (h3 : ∀ j, v.ownBlock = some j → row ≠ some j) : St3 P X w2 c2 r' u0 u1 u2 E size v n xs :=
  ⟨h.k.step hg (fun j e => (h2 j e).elim .inl (fun a => .inr (.inr a))), hr, hg.cell h.c0 h1, hg.cell h.c1 h1, hg.cell h.c2 h1, fz_kept hg h1 h.lt h.f, Nat.lt_of_lt_of_le h.lt hg.size, row_kept2 h.row hg h3⟩
theorem St3.call {P X : Nat} {w2 cur c2 : World} {r r' : List Int} {u0 u1 u2 : Value} {E size : Nat} {v : Value} {n : Nat} {xs : List Value} (h : St3 P X w2 cur r u0 u1 u2 E size v n xs) (hg : cur.grownBy c2 (some P)) (hr : RdS P c2 r') (hXP : X ≠ P) (hP : P < w2.heap.size) : St3 P X w2 c2 r' u0 u1 u2 E size v n xs :=
  h.step hg hr (fun e => hXP (by injection e)) (fun j e => .inl (by injection e with e; exact e.symm)) (fun j hj e => by have := (h.row.lt j hj).1; injection e with e; omega)
theorem St3.alloc {P X : Nat} {w2 cur : World} {r : List Int} {u0 u1 u2 : Value} {E size : Nat} {v : Value} {n : Nat} {xs : List Value} (h : St3 P X w2 cur r u0 u1 u2 E size v n xs) (o : Obj) : St3 P X w2 (cur.alloc o) r u0 u1 u2 E size v n xs :=
  h.step (row := none) (World.grownBy_alloc _ _ _) (h.r.alloc o) (by simp) (fun j e => by cases e) (fun j _ e => by cases e)
theorem St3.set {P X G i : Nat} {w2 cur : World} {r : List Int} {u0 u1 u2 u : Value} {E size : Nat} {v : Value} {n : Nat} {xs : List Value} (h : St3 P X w2 cur r u0 u1 u2 E size v n xs) (hG : w2.heap.size ≤ G) (hX : X < w2.heap.size) (hP : P < w2.heap.size) (hv : ∀ j, v.ownBlock = some j → j < G) : St3 P X w2 (cur.setCell ⟨G, i, none⟩ u) r u0 u1 u2 E size v n xs :=
  h.step (gb_one _ _ _ _) (h.r.set (by omega)) (fun e => by injection e with e; omega) (fun j e => .inr (by injection e with e; omega)) (fun j hj e => by have := hv j hj; injection e with e; omega)
theorem St3.app {P X : Nat} {w2 cur w5 : World} {r : List Int} {u0 u1 u2 : Value} {E size : Nat} {v v' : Value} {n n' : Nat} {xs xs' : List Value} (h : St3 P X w2 cur r u0 u1 u2 E size v n xs) (hg : cur.grownBy w5 v.ownBlock) (ho : w5.ownsRow w2.heap.size E size v' n' xs') (hX : X < w2.heap.size) (hP : P < w2.heap.size) : St3 P X w2 w5 r u0 u1 u2 E size v' n' xs' := by
  have h1 : some X ≠ v.ownBlock := fun e => by have := (h.row.lt X e.symm).1; omega
  have h0 : some P ≠ v.ownBlock := fun e => by have := (h.row.lt P e.symm).1; omega
  exact ⟨h.k.step hg (fun j e => .inr (.inr (h.row.lt j e).1)), h.r.kept hg h0, hg.cell h.c0 h1, hg.cell h.c1 h1, hg.cell h.c2 h1, fz_kept hg h1 h.lt h.f, Nat.lt_of_lt_of_le h.lt hg.size, ho⟩
theorem setX {P X i : Nat} {w2 cur : World} {r : List Int} {u0 u1 u2 u : Value} {E size : Nat} {v : Value} {n : Nat} {xs : List Value} (h : St3 P X w2 cur r u0 u1 u2 E size v n xs) (hX : X < w2.heap.size) (hXP : X ≠ P) :
    Kep P X w2 (cur.setCell ⟨X, i, none⟩ u) ∧ RdS P (cur.setCell ⟨X, i, none⟩ u) r ∧ (∀ i', (cur.setCell ⟨X, i, none⟩ u).frozen? ⟨X, i', none⟩ = false) ∧ X < (cur.setCell ⟨X, i, none⟩ u).heap.size ∧ (cur.setCell ⟨X, i, none⟩ u).ownsRow w2.heap.size E size v n xs :=
  ⟨h.k.step (gb_one _ _ _ _) (fun j e => .inr (.inl (by injection e with e; exact e.symm))), h.r.set hXP, fun i' => (fz_set _ _ _ _ _ _).trans (h.f i'), Nat.lt_of_lt_of_le h.lt (gb_one _ _ _ _).size, row_kept2 h.row (gb_one _ _ _ _) (fun j hj e => by have := (h.row.lt j hj).1; injection e with e; omega)⟩
theorem St3.set0 {P X : Nat} {w2 cur : World} {r : List Int} {u0 u1 u2 u : Value} {E size : Nat} {v : Value} {n : Nat} {xs : List Value} (h : St3 P X w2 cur r u0 u1 u2 E size v n xs) (hX : X < w2.heap.size) (hXP : X ≠ P) : St3 P X w2 (cur.setCell ⟨X, 0, none⟩ u) r u u1 u2 E size v n xs := by
  obtain ⟨a, b, c, d, e⟩ := setX (i := 0) (u := u) h hX hXP
  exact ⟨a, b, set_here h.c0, set_off (by decide) h.c1, set_off (by decide) h.c2, c, d, e⟩
theorem St3.set1 {P X : Nat} {w2 cur : World} {r : List Int} {u0 u1 u2 u : Value} {E size : Nat} {v : Value} {n : Nat} {xs : List Value} (h : St3 P X w2 cur r u0 u1 u2 E size v n xs) (hX : X < w2.heap.size) (hXP : X ≠ P) : St3 P X w2 (cur.setCell ⟨X, 1, none⟩ u) r u0 u u2 E size v n xs := by
  obtain ⟨a, b, c, d, e⟩ := setX (i := 1) (u := u) h hX hXP
  exact ⟨a, b, set_off (by decide) h.c0, set_here h.c1, set_off (by decide) h.c2, c, d, e⟩
theorem St3.set2 {P X : Nat} {w2 cur : World} {r : List Int} {u0 u1 u2 u : Value} {E size : Nat} {v : Value} {n : Nat} {xs : List Value} (h : St3 P X w2 cur r u0 u1 u2 E size v n xs) (hX : X < w2.heap.size) (hXP : X ≠ P) : St3 P X w2 (cur.setCell ⟨X, 2, none⟩ u) r u0 u1 u E size v n xs := by
  obtain ⟨a, b, c, d, e⟩ := setX (i := 2) (u := u) h hX hXP
  exact ⟨a, b, set_off (by decide) h.c0, set_off (by decide) h.c1, set_here h.c2, c, d, e⟩
theorem zK_next {α : Type} {f : List Int → α × List Int} {N j : Nat} {q r : List Int} {l : List α} (h : zK f N q = (l ++ (zK f (j + 1) r).1, (zK f (j + 1) r).2)) : zK f N q = ((l ++ [(f r).1]) ++ (zK f j (f r).2).1, (zK f j (f r).2).2) := by
  rw [h]
  simp [zK]
theorem zK_end {α : Type} {f : List Int → α × List Int} {N : Nat} {q r : List Int} {l : List α} (h : zK f N q = (l ++ (zK f 0 r).1, (zK f 0 r).2)) : zK f N q = (l, r) := by
  rw [h]
  simp [zK]
/-- What the document's PlanFrom comes to. -/
def docOk (bs : List Int) : Option (Int × List Core) := if planE (zP bs).1.1 ((zP bs).1.2.map cX) = 0 ∧ pB (zP bs).1 = bs then some (zP bs).1 else none

/-- The plan that is being read, and what is kept. -/
structure StD (P D R : Nat) (w cur : World) (r : List Int) (m : Int) (v : Value) (cl : List TxA) : Prop where
  b : Below w.heap.size w cur
  r : RdS P cur r
  d0 : cur.cell? ⟨D, 0, none⟩ = some (.int .i64 m)
  d1 : cur.cell? ⟨D, 1, none⟩ = some v
  df : ∀ i, cur.frozen? ⟨D, i, none⟩ = false
  r0 : cur.cell? ⟨R, 0, none⟩ = some (.int .i64 0)
  r1 : cur.cell? ⟨R, 1, none⟩ = some (.slice none 0 0)
  rf : ∀ i, cur.frozen? ⟨R, i, none⟩ = false
  lt : D < cur.heap.size
  row : TxRow (D + 1) cur v cl
theorem StD.gb {P D R : Nat} {w cur c2 : World} {r r' : List Int} {m : Int} {v : Value} {cl : List TxA} (h : StD P D R w cur r m v cl) (g : cur.grownBy c2 (some P)) (hr : RdS P c2 r') (h1 : w.heap.size ≤ P) (h2 : R < P) (h3 : P < D) : StD P D R w c2 r' m v cl :=
  ⟨⟨g.os.trans h.b.os, g.tape.trans h.b.tape, g.output.trans h.b.output, Nat.le_trans h.b.size g.size, fun b hb => (g.block b (Nat.lt_of_lt_of_le hb h.b.size) (fun e => by injection e with e; omega)).trans (h.b.block b hb)⟩, hr, gb_cell g (by omega) h.d0, gb_cell g (by omega) h.d1, gb_frozen g (by omega) h.lt h.df, gb_cell g (by omega) h.r0, gb_cell g (by omega) h.r1, gb_frozen g (by omega) (by have := h.lt; omega) h.rf, Nat.lt_of_lt_of_le h.lt g.size, h.row.kept g (fun j e => by injection e with e; omega)⟩
theorem StD.app {P D R : Nat} {w cur w5 : World} {r : List Int} {m : Int} {v v' : Value} {cl cl' : List TxA} (h : StD P D R w cur r m v cl) (g : cur.grownBy w5 v.ownBlock) (ho : TxRow (D + 1) w5 v' cl') (h1 : w.heap.size ≤ P) (h2 : R < P) (h3 : P < D) : StD P D R w (w5.setCell ⟨D, 1, none⟩ v') r m v' cl' := by
  have lo : ∀ j, v.ownBlock = some j → D + 1 ≤ j := fun j hj => (h.row.1.lt j hj).1
  have nD : some D ≠ v.ownBlock := fun e => by have := lo D e.symm; omega
  have nP : some P ≠ v.ownBlock := fun e => by have := lo P e.symm; omega
  have nR : some R ≠ v.ownBlock := fun e => by have := lo R e.symm; omega
  have B5 : Below w.heap.size w w5 := ⟨g.os.trans h.b.os, g.tape.trans h.b.tape, g.output.trans h.b.output, Nat.le_trans h.b.size g.size, fun b hb => (g.block b (Nat.lt_of_lt_of_le hb h.b.size) (fun e => by have := lo b e.symm; omega)).trans (h.b.block b hb)⟩
  exact ⟨grow_set B5 (show w.heap.size ≤ D by omega) _, (h.r.kept g nP).set (by omega), set_off (by decide) (g.cell h.d0 nD), set_here (g.cell h.d1 nD), fun i => (fz_set _ _ _ _ _ _).trans (fz_kept g nD h.lt h.df i), gb_cell (gb_one _ _ _ _) (by omega) (g.cell h.r0 nR), gb_cell (gb_one _ _ _ _) (by omega) (g.cell h.r1 nR), fun i => (fz_set _ _ _ _ _ _).trans (fz_kept g nR (by have := h.lt; omega) h.rf i), Nat.lt_of_lt_of_le (Nat.lt_of_lt_of_le h.lt g.size) (gb_one _ _ _ _).size, ho.set (Nat.lt_succ_self _)⟩
end Go.Proofs.Ytcgpkonfneofdaa

namespace Go.Proofs.Ytcgpkonfneofdaa
open Go.RowKit

theorem txs_of_row {C : Nat} {w : World} {a : Option Addr} {c : Nat} {cl : List TxA} (h : TxRow C w (.slice a cl.length c) cl) : IsTxs w a cl := by
  obtain ⟨a', c', he, htx⟩ := h.txs
  injection he with e1 e2 e3
  subst e1
  exact htx

/-- How the document's PlanFrom ends. -/
def FromOut (bs : List Int) (e : Ending) (w' : World) : Prop := match docOk bs with
  | none => e = .returned (.tuple #[.agg #[.int .i64 0, .slice none 0 0], .bool false])
  | some p => ∃ (a : Option Addr) (cl : List TxA) (c : Nat), e = .returned (.tuple #[.agg #[.int .i64 p.1, .slice a cl.length c], .bool true]) ∧ IsTxs w' a cl ∧ cl.map TxA.core = p.2
set_option maxRecDepth 100000 in
set_option maxHeartbeats 8000000 in
theorem docFrom_any (s : ByteArray) (w : World) :
    Calls Try.prog 21 #[.string s] w fun e w' => Below w.heap.size w w' ∧ FromOut (lst s) e w' := by
  obtain ⟨i3, hi3, hz30, hz31, hz32⟩ := info_parts Try.info3
  obtain ⟨i101, hi101, hz1010, hz1011, hz1012⟩ := info_parts Try.info101
  obtain ⟨i47, hi47, hz470, hz471, hz472⟩ := info_parts Try.info47
  obtain ⟨W, hWe⟩ : ∃ W, W = ((w.alloc (.cells #[.int .i64 0, .slice none 0 0] 50)).alloc (.cells #[.string s] 111)) := ⟨_, rfl⟩
  have HWE : Hid (W = ((w.alloc (.cells #[.int .i64 0, .slice none 0 0] 50)).alloc (.cells #[.string s] 111))) := hWe
  have BW : Hid (Below w.heap.size w W) := by subst hWe; exact grow_alloc (grow_alloc (Below.refl _ _) _) _
  have HSW : Hid (W.heap.size = w.heap.size + 2) := by subst hWe; show _ = _; simp
  have HR : Hid (RdS (w.heap.size + 1) W (lst s)) := by subst hWe; exact ⟨s, at_new _ _ 111 _ 0 _ (by simp) rfl, frozen_new _ _ 111 _ 0 (by simp), rfl⟩
  have t0 : W.cell? ⟨w.heap.size, 0, none⟩ = some (.int .i64 0) := by subst hWe; exact ext_cell (grow_alloc (Below.refl _ _) _) (at_new w _ 50 _ 0 _ rfl rfl)
  have t1 : W.cell? ⟨w.heap.size, 1, none⟩ = some (.slice none 0 0) := by subst hWe; exact ext_cell (grow_alloc (Below.refl _ _) _) (at_new w _ 50 _ 1 _ rfl rfl)
  have tf : ∀ i, W.frozen? ⟨w.heap.size, i, none⟩ = false := by subst hWe; intro i; exact ((grow_alloc (Below.refl (w.alloc (.cells #[.int .i64 0, .slice none 0 0] 50)).heap.size (w.alloc (.cells #[.int .i64 0, .slice none 0 0] 50))) (.cells #[.string s] 111)).frozen (p := ⟨w.heap.size, i, none⟩) (by simp)).trans (by simp)
  clear hWe
  go_enter Try.func21, Try.ntmps21
  go_upto_region 2 with fail
  rw [← HWE.out]
  obtain ⟨P, hPe⟩ : ∃ P, P = w.heap.size + 1 := ⟨_, rfl⟩
  have hwP : w.heap.size ≤ P := by omega
  have hRP : w.heap.size < P := by omega
  rw [← hPe] at HR
  have hPW : P < W.heap.size := HR.out.lt
  rw [← hPe]
  clear HWE hPe
  go_wp2_with fail
  refine (zByte_any P (lst s) _ HR.out).mono ?_
  rintro e w1 ⟨rfl, h1, g⟩
  have HZP : Hid ((zP (lst s)).1 = ((zN (lst s)).1, (zL zT (zN (lst s)).2).1)) := rfl
  generalize (zN (lst s)).1 = m at *
  generalize (zN (lst s)).2 = q1 at *
  have hRn : w.heap.size ≠ P := by omega
  have hWs : w.heap.size < W.heap.size := by omega
  have t0 := gb_cell g hRn t0
  have t1 := gb_cell g hRn t1
  have tf := gb_frozen g hRn hWs tf
  have B1 : Below w.heap.size w w1 := ⟨g.os.trans BW.out.os, g.tape.trans BW.out.tape, g.output.trans BW.out.output, Nat.le_trans BW.out.size g.size, fun b hb => (g.block b (Nat.lt_of_lt_of_le hb BW.out.size) (fun e => by injection e with e; omega)).trans (BW.out.block b hb)⟩
  have hPD : P < w1.heap.size := Nat.lt_of_lt_of_le hPW g.size
  obtain ⟨V, hVe⟩ : ∃ V, V = w1.alloc (.cells #[.int .i64 m, .slice none 0 0] 50) := ⟨_, rfl⟩
  have HVE : Hid (V = w1.alloc (.cells #[.int .i64 m, .slice none 0 0] 50)) := hVe
  have HDV : Hid (StD P w1.heap.size w.heap.size w V q1 m (.slice none 0 0) []) := by
    subst hVe
    exact ⟨grow_alloc B1 _, h1.alloc _, by simp, by simp, fun i => by simp, ext_cell (grow_alloc (Below.refl _ _) _) t0, ext_cell (grow_alloc (Below.refl _ _) _) t1, fun i => ((grow_alloc (Below.refl w1.heap.size w1) (.cells #[.int .i64 m, .slice none 0 0] 50)).frozen (p := ⟨w.heap.size, i, none⟩) (show w.heap.size < w1.heap.size by omega)).trans (tf i), by simp, txRow_nil _ _⟩
  clear hVe B1 h1 g t0 t1 tf HR
  go_upto_region 3 with fail
  rw [← HVE.out]
  clear HVE
  generalize w1.heap.size = D at *
  go_wp2_with fail
  refine (zByte_any P q1 _ HDV.out.r).mono ?_
  rintro e w2 ⟨rfl, h2, g⟩
  have hbN := zN_byt HDV.out.r.byt
  obtain ⟨N, hN⟩ : ∃ N : Nat, (zN q1).1 = N := ⟨(zN q1).1.toNat, by omega⟩
  have HLT : Hid (zL zT q1 = zK zT N (zN q1).2) := by show _ = _; simp [zL, hN]
  rw [hN]
  have hNb : N ≤ 255 := by omega
  generalize (zN q1).2 = qO at *
  have HDO := hid (HDV.out.gb g h2 hwP hRP hPD)
  clear g h2 HDV hbN hN
  go_wp2
  go_loopw [6, 7, 8, 9, 10, 11, 12] (fun i _ _ _ _ _ _ wr => ∃ (n : Nat) (cl : List TxA) (r : List Int) (v : Value), i = .int .i64 n ∧ cl.length + n ≤ 255 ∧ Hid (zK zT N qO = (cl.map TxA.core ++ (zK zT n r).1, (zK zT n r).2)) ∧ Hid (StD P D w.heap.size w wr r m v cl)) (fun i _ _ _ _ _ _ _ => (intOf i).toNat)
  case atStart => exact ⟨N, [], qO, _, rfl, by simp; omega, rfl, HDO⟩
  case round =>
    clear HDO
    obtain ⟨nO, cl, rO, vO, rfl, hcl, hKO, HDO⟩ := hrel
    cases nO with
    | zero =>
      have i2 : ¬ (0 : Int) < ((0 : Nat) : Int) := by omega
      have HEO : Hid (zK zT N qO = (cl.map TxA.core, rO)) := zK_end hKO.out
      clear hKO
      obtain ⟨a, c, hv, htx⟩ := HDO.out.row.txs
      subst hv
      have HTX := hid htx
      have d0 := HDO.out.d0
      have d1 := HDO.out.d1
      have HZ : Hid ((zP (lst s)).1 = (m, cl.map TxA.core)) := by
        show _ = _
        rw [HZP.out, HLT.out, HEO.out]
      have HDK : Hid (docOk (lst s) = if planE m cl = 0 ∧ plB m cl = lst s then some (m, cl.map TxA.core) else none) := by
        show _ = _
        unfold docOk
        rw [HZ.out, planE_core, ← plB_core]
      clear htx HZP HLT HEO
      by_cases hE : planE m cl = 0
      · have CC : Hid (Calls Try.prog 17 #[.agg #[.int .i64 m, .slice a cl.length c]] wr fun e w' => e = .returned (.int .i64 0) ∧ Below wr.heap.size wr w') := by
          have := checkPlan_any a c cl m wr HTX.out
          rw [hE] at this
          exact this
        have HPE : Hid (planE m cl = 0) := hE
        clear hE
        go_wp2_with fail
        refine CC.out.mono ?_
        rintro e w3 ⟨rfl, hb3⟩
        have d0 := ext_cell hb3 d0
        have d1 := ext_cell hb3 d1
        have B3 := hid hb3
        clear hb3 CC
        go_wp2_with fail
        refine (docBytes_any a c cl m _ (HTX.out.below B3.out) HPE.out).mono ?_
        rintro e w4 ⟨S, rfl, hS, hb4⟩
        have hbb := grow_trans B3.out hb4
        have HB4 : Hid (Below w.heap.size w w4) := grow_trans HDO.out.b hbb
        have d0 := ext_cell hb4 d0
        have d1 := ext_cell hb4 d1
        have r0 := ext_cell hbb HDO.out.r0
        have r1 := ext_cell hbb HDO.out.r1
        have rf : ∀ i, w4.frozen? ⟨w.heap.size, i, none⟩ = false := fun i => (hbb.frozen (p := ⟨w.heap.size, i, none⟩) (show w.heap.size < wr.heap.size by have := HDO.out.lt; omega)).trans (HDO.out.rf i)
        have HDR := hid (HDO.out.row.below hbb)
        have hRD : w.heap.size < D + 1 := by omega
        have HSL := hid hS
        clear hb4 hbb hS B3
        by_cases hq : lst S = lst s
        · have hSs : S = s := lst_eq hq
          have HG : Hid (docOk (lst s) = some (m, cl.map TxA.core)) := by
            show _ = _
            rw [HDK.out, if_pos ⟨HPE.out, HSL.out.symm.trans hq⟩]
          clear hq
          subst hSs
          obtain ⟨y0, y1⟩ := put2 (.int .i64 m) (.slice a cl.length c) r0 r1
          go_wp2_with fail
          refine bodyPost_ret (v := .tuple #[.agg #[.int .i64 m, .slice a cl.length c], .bool true]) (by simp [results, Try.results21, go_sem, y0, y1]) rfl ⟨grow_set (grow_set HB4.out (Nat.le_refl _) _) (Nat.le_refl _) _, ?_⟩
          unfold FromOut
          rw [HG.out]
          exact ⟨a, cl, c, rfl, txs_of_row (((HDR.out.set (i := 0) (u := .int .i64 m) hRD).set (i := 1) (u := .slice a cl.length c) hRD)), rfl⟩
        · have hq2 : ¬ S.toList = s.toList := by
            intro e
            have := lst_iff S s
            rw [e] at this
            simp [hq] at this
          have hq3 : (S.toList == s.toList) = false := by rw [lst_iff]; simp [hq]
          have HG : Hid (docOk (lst s) = none) := by
            show _ = _
            rw [HDK.out, if_neg]
            rintro ⟨_, h⟩
            exact hq (HSL.out.trans h)
          clear hq
          obtain ⟨y0, y1⟩ := put2 (.int .i64 0) (.slice none 0 0) r0 r1
          go_wp2_with fail
          refine bodyPost_ret (v := .tuple #[.agg #[.int .i64 0, .slice none 0 0], .bool false]) (by simp [results, Try.results21, go_sem, y0, y1]) rfl ⟨grow_set (grow_set HB4.out (Nat.le_refl _) _) (Nat.le_refl _) _, ?_⟩
          unfold FromOut
          rw [HG.out]
      · have CC := hid (checkPlan_any a c cl m wr HTX.out)
        have HG : Hid (docOk (lst s) = none) := by
          show _ = _
          rw [HDK.out, if_neg]
          rintro ⟨h, _⟩
          exact hE h
        have hE2 : (planE m cl != 0) = true := by simpa using hE
        clear hE HDK
        generalize planE m cl = E at *
        go_wp2_with fail
        refine CC.out.mono ?_
        rintro e w3 ⟨rfl, hb3⟩
        have HB4 : Hid (Below w.heap.size w w3) := grow_trans HDO.out.b hb3
        have r0 := ext_cell hb3 HDO.out.r0
        have r1 := ext_cell hb3 HDO.out.r1
        have rf : ∀ i, w3.frozen? ⟨w.heap.size, i, none⟩ = false := fun i => (hb3.frozen (p := ⟨w.heap.size, i, none⟩) (show w.heap.size < wr.heap.size by have := HDO.out.lt; omega)).trans (HDO.out.rf i)
        obtain ⟨y0, y1⟩ := put2 (.int .i64 0) (.slice none 0 0) r0 r1
        clear hb3 CC
        go_wp2_with fail
        refine bodyPost_ret (v := .tuple #[.agg #[.int .i64 0, .slice none 0 0], .bool false]) (by simp [results, Try.results21, go_sem, y0, y1]) rfl ⟨grow_set (grow_set HB4.out (Nat.le_refl _) _) (Nat.le_refl _) _, ?_⟩
        unfold FromOut
        rw [HG.out]
    | succ nO =>
      have i2 : (0 : Int) < ((nO + 1 : Nat) : Int) := by omega
      go_upto_region 7 with fail
      obtain ⟨wr0, hw0⟩ : ∃ v, v = wr := ⟨_, rfl⟩
      obtain ⟨X, hXe⟩ : ∃ X, X = wr.heap.size := ⟨_, rfl⟩
      obtain ⟨VX, hVX⟩ : ∃ V, V = wr.alloc (.cells #[.slice none 0 0, .slice none 0 0, .slice none 0 0] 38) := ⟨_, rfl⟩
      have hX0 : Hid (wr0.heap.size ≤ X) := by subst hw0 hXe; exact Nat.le_refl _
      have hX0' : Hid (X ≤ wr0.heap.size) := by subst hw0 hXe; exact Nat.le_refl _
      have hDX : D < X := by rw [hXe]; exact HDO.out.lt
      have RX : Hid (RdS P VX rO) := by subst hVX; exact HDO.out.r.alloc _
      have GX : Hid (wr0.grownBy VX (some P)) := by subst hw0 hVX; exact World.grownBy_alloc _ _ _
      have x0 : VX.cell? ⟨X, 0, none⟩ = some (.slice none 0 0) := by subst hXe hVX; simp
      have x1 : VX.cell? ⟨X, 1, none⟩ = some (.slice none 0 0) := by subst hXe hVX; simp
      have x2 : VX.cell? ⟨X, 2, none⟩ = some (.slice none 0 0) := by subst hXe hVX; simp
      have xf : ∀ i, VX.frozen? ⟨X, i, none⟩ = false := by subst hXe hVX; intro i; simp
      have hXV : X < VX.heap.size := by subst hXe hVX; simp
      rw [← hVX, ← hXe]
      rw [← hw0] at HDO
      have hXP : X ≠ P := by omega
      clear hVX hXe hw0
      go_wp2_with fail
      refine (zByte_any P rO _ RX.out).mono ?_
      rintro e z2 ⟨rfl, h3, g⟩
      have hbn := zN_byt RX.out.byt
      obtain ⟨N2, hN⟩ : ∃ N : Nat, (zN rO).1 = N := ⟨(zN rO).1.toNat, by omega⟩
      have HL2 : Hid (zL zN rO = zK zN N2 (zN rO).2) := by show _ = _; simp [zL, hN]
      rw [hN]
      have hNb : N2 ≤ 255 := by omega
      generalize (zN rO).2 = q2 at *
      have hX2 : X < z2.heap.size := Nat.lt_of_lt_of_le hXV g.size
      have hP2 : P < z2.heap.size := by omega
      have GB2 : Hid (wr0.grownBy z2 (some P)) := GX.out.trans g
      have HS : Hid (St3 P X z2 z2 q2 (.slice none 0 0) (.slice none 0 0) (.slice none 0 0) 3 1 (.slice none 0 0) 0 []) := ⟨Kep.refl _ _ _, h3, gb_cell g hXP x0, gb_cell g hXP x1, gb_cell g hXP x2, gb_frozen g hXP hXV xf, hX2, World.ownsRow_nil _ _ _ _⟩
      clear h3 g hbn hN x0 x1 x2 xf RX GX
      go_wp2
      go_loopw [8] (fun i wr => ∃ (n : Nat) (l : List Int) (r : List Int) (v : Value), i = .int .i64 n ∧ l.length + n ≤ 255 ∧ Hid (zK zN N2 q2 = (l ++ (zK zN n r).1, (zK zN n r).2)) ∧ Hid (St3 P X z2 wr r v (.slice none 0 0) (.slice none 0 0) 3 1 v l.length (l.map (Value.int .i64)))) (fun i _ => (intOf i).toNat)
      case atStart => exact ⟨N2, [], q2, _, rfl, by simp; omega, rfl, HS⟩
      case round =>
        clear HS
        obtain ⟨n2, l2, r2, v2, rfl, hln2, hK2, HS⟩ := hrel
        have x0 := HS.out.c0
        have x1 := HS.out.c1
        have x2 := HS.out.c2
        have xf := HS.out.f
        cases n2 with
        | zero =>
          have i2 : ¬ (0 : Int) < ((0 : Nat) : Int) := by omega
          have HE2 : Hid (zK zN N2 q2 = (l2, r2)) := zK_end hK2.out
          clear hK2
          obtain ⟨a1, k1, hv, hi⟩ := ints_of_owns HS.out.row
          subst hv
          have hin := owns_in HS.out.row
          have hsz := HS.out.k.size
          have hXs : X < z2.heap.size := hX2
          have HWa1 : Hid (InBlocks (X + 1) wr.heap.size a1 ∧ (a1 = none → k1 = 0)) := ⟨hin.1.widen hXs (Nat.le_refl _), hin.2⟩
          have GB' : Hid (wr0.grownBy wr (some P)) := HS.out.k.gb GB2.out hX0.out
          have HIa1 := hid hi
          have HLl2 : Hid (l2.length ≤ 255) := by show _ ≤ _; omega
          clear hin hi hsz hXs i2
          go_wp2_with fail
          refine (zByte_any P r2 _ HS.out.r).mono ?_
          rintro e z3 ⟨rfl, h3, g⟩
          have hbn := zN_byt HS.out.r.byt
          obtain ⟨N3, hN⟩ : ∃ N : Nat, (zN r2).1 = N := ⟨(zN r2).1.toNat, by omega⟩
          have HL3 : Hid (zL zG r2 = zK zG N3 (zN r2).2) := by show _ = _; simp [zL, hN]
          rw [hN]
          have hNb : N3 ≤ 255 := by omega
          generalize (zN r2).2 = q3 at *
          have HC := HS.out.call g h3 hXP hP2
          have HS' : Hid (St3 P X z3 z3 q3 (.slice a1 l2.length k1) (.slice none 0 0) (.slice none 0 0) 101 5 (.slice none 0 0) 0 []) := ⟨Kep.refl _ _ _, h3, HC.c0, HC.c1, HC.c2, HC.f, HC.lt, World.ownsRow_nil _ _ _ _⟩
          have HIa1 := hid (gb_ints g HIa1.out HWa1.out.1 (by omega))
          have HWa1 : Hid (InBlocks (X + 1) z3.heap.size a1 ∧ (a1 = none → k1 = 0)) := ⟨HWa1.out.1.widen (Nat.le_refl _) g.size, HWa1.out.2⟩
          have GB3 : Hid (wr0.grownBy z3 (some P)) := GB'.out.trans g
          have hX3 : X < z3.heap.size := HC.lt
          have hP3 : P < z3.heap.size := by omega
          clear HC h3 g hbn hN HS GB' x0 x1 x2 xf
          have HS := HS'
          clear HS'
          go_wp2
          go_loopw [9, 10] (fun i _ wr => ∃ (n : Nat) (l : List Gd) (r : List Int) (v : Value), i = .int .i64 n ∧ l.length + n ≤ 255 ∧ Hid (zK zG N3 q3 = (l ++ (zK zG n r).1, (zK zG n r).2)) ∧ Hid (St3 P X z3 wr r (.slice a1 l2.length k1) v (.slice none 0 0) 101 5 v l.length (flat l))) (fun i _ _ => (intOf i).toNat)
          case atStart => exact ⟨N3, [], q3, _, rfl, by simp; omega, rfl, HS⟩
          case round =>
            clear HS
            obtain ⟨n3, l3, r3, v3, rfl, hln3, hK3, HS⟩ := hrel
            have x0 := HS.out.c0
            have x1 := HS.out.c1
            have x2 := HS.out.c2
            have xf := HS.out.f
            cases n3 with
            | zero =>
              have i2 : ¬ (0 : Int) < ((0 : Nat) : Int) := by omega
              have HE3 : Hid (zK zG N3 q3 = (l3, r3)) := zK_end hK3.out
              clear hK3
              obtain ⟨a2, k2, hv, hi⟩ := gs_of_owns HS.out.row
              subst hv
              have hin := owns_in HS.out.row
              have hsz := HS.out.k.size
              have hXs : X < z3.heap.size := hX3
              have HWa2 : Hid (InBlocks (X + 1) wr.heap.size a2 ∧ (a2 = none → k2 = 0)) := ⟨hin.1.widen hXs (Nat.le_refl _), hin.2⟩
              have GB' : Hid (wr0.grownBy wr (some P)) := HS.out.k.gb GB3.out hX0.out
              have HIa2 := hid hi
              have HIa1 := hid (HS.out.k.ints HIa1.out HWa1.out.1 (by omega) (Nat.lt_succ_self _))
              have HWa1 : Hid (InBlocks (X + 1) wr.heap.size a1 ∧ (a1 = none → k1 = 0)) := ⟨HWa1.out.1.widen (Nat.le_refl _) hsz, HWa1.out.2⟩
              have HLl3 : Hid (l3.length ≤ 255) := by show _ ≤ _; omega
              clear hin hi hsz hXs i2
              go_wp2_with fail
              refine (zByte_any P r3 _ HS.out.r).mono ?_
              rintro e z4 ⟨rfl, h3, g⟩
              have hbn := zN_byt HS.out.r.byt
              obtain ⟨N4, hN⟩ : ∃ N : Nat, (zN r3).1 = N := ⟨(zN r3).1.toNat, by omega⟩
              have HL4 : Hid (zL zS r3 = zK zS N4 (zN r3).2) := by show _ = _; simp [zL, hN]
              rw [hN]
              have hNb : N4 ≤ 255 := by omega
              generalize (zN r3).2 = q5 at *
              have HC := HS.out.call g h3 hXP hP3
              have HS' : Hid (St3 P X z4 z4 q5 (.slice a1 l2.length k1) (.slice a2 l3.length k2) (.slice none 0 0) 47 6 (.slice none 0 0) 0 []) := ⟨Kep.refl _ _ _, h3, HC.c0, HC.c1, HC.c2, HC.f, HC.lt, World.ownsRow_nil _ _ _ _⟩
              have HIa2 := hid (gb_gs g HIa2.out HWa2.out.1 (by omega))
              have HWa2 : Hid (InBlocks (X + 1) z4.heap.size a2 ∧ (a2 = none → k2 = 0)) := ⟨HWa2.out.1.widen (Nat.le_refl _) g.size, HWa2.out.2⟩
              have HIa1 := hid (gb_ints g HIa1.out HWa1.out.1 (by omega))
              have HWa1 : Hid (InBlocks (X + 1) z4.heap.size a1 ∧ (a1 = none → k1 = 0)) := ⟨HWa1.out.1.widen (Nat.le_refl _) g.size, HWa1.out.2⟩
              have GB4 : Hid (wr0.grownBy z4 (some P)) := GB'.out.trans g
              have hX4 : X < z4.heap.size := HC.lt
              have hP4 : P < z4.heap.size := by omega
              clear HC h3 g hbn hN HS GB' x0 x1 x2 xf
              have HS := HS'
              clear HS'
              go_wp2
              go_loopw [11, 12] (fun i _ wr => ∃ (n : Nat) (l : List St) (r : List Int) (v : Value), i = .int .i64 n ∧ l.length + n ≤ 255 ∧ Hid (zK zS N4 q5 = (l ++ (zK zS n r).1, (zK zS n r).2)) ∧ Hid (St3 P X z4 wr r (.slice a1 l2.length k1) (.slice a2 l3.length k2) v 47 6 v l.length (flatS l))) (fun i _ _ => (intOf i).toNat)
              case atStart => exact ⟨N4, [], q5, _, rfl, by simp; omega, rfl, HS⟩
              case round =>
                clear HS
                obtain ⟨n4, l4, r4, v4, rfl, hln4, hK4, HS⟩ := hrel
                have x0 := HS.out.c0
                have x1 := HS.out.c1
                have x2 := HS.out.c2
                have xf := HS.out.f
                cases n4 with
                | zero =>
                  have i2 : ¬ (0 : Int) < ((0 : Nat) : Int) := by omega
                  have HE4 : Hid (zK zS N4 q5 = (l4, r4)) := zK_end hK4.out
                  clear hK4
                  obtain ⟨a3, k3, hv, hi⟩ := ss_of_owns HS.out.row
                  subst hv
                  have hin := owns_in HS.out.row
                  have hsz := HS.out.k.size
                  have HWa3 : InBlocks (X + 1) wr.heap.size a3 ∧ (a3 = none → k3 = 0) := ⟨hin.1.widen hX4 (Nat.le_refl _), hin.2⟩
                  have GB' : wr0.grownBy wr (some P) := HS.out.k.gb GB4.out hX0.out
                  have HX : Hid (IsX wr ⟨a1, a2, a3, k1, k2, k3, l2, l3, l4⟩) := by
                    have m1 := HLl2.out
                    have m2 := HLl3.out
                    exact ⟨⟨HS.out.k.ints HIa1.out HWa1.out.1 (by omega) (Nat.lt_succ_self _), HS.out.k.gs HIa2.out HWa2.out.1 (by omega) (Nat.lt_succ_self _), hi, by simp only; unfold maxLen; omega, by simp only; unfold maxLen; omega, by simp only; unfold maxLen; omega⟩, HWa1.out.2, HWa2.out.2, HWa3.2⟩
                  have HXB : Hid (XB (X + 1) wr.heap.size ⟨a1, a2, a3, k1, k2, k3, l2, l3, l4⟩) := ⟨HWa1.out.1.widen (Nat.le_refl _) hsz, HWa2.out.1.widen (Nat.le_refl _) hsz, HWa3.1⟩
                  have HDW := hid (HDO.out.gb GB' HS.out.r hwP hRP hPD)
                  have HM : Hid (∀ o, IsX (wr.alloc o) ⟨a1, a2, a3, k1, k2, k3, l2, l3, l4⟩ ∧ XIn (D + 1) (wr.alloc o).heap.size vO ⟨a1, a2, a3, k1, k2, k3, l2, l3, l4⟩) := fun o => ⟨HX.out.below (grow_alloc (Below.refl _ _) _), (HXB.out.xin (by omega) (fun j hj => by have := (HDO.out.row.1.lt j hj).2; have := hX0.out; omega)).widen (Nat.le_refl _) (by simp)⟩
                  have HT : Hid (zT rO = ((l2, l3, l4), r4)) := by
                    show _ = _
                    simp only [zT, HL2.out, HE2.out, HL3.out, HE3.out, HL4.out, HE4.out]
                  have HKT : Hid (zK zT N qO = ((cl ++ [(⟨a1, a2, a3, k1, k2, k3, l2, l3, l4⟩ : TxA)]).map TxA.core ++ (zK zT nO r4).1, (zK zT nO r4).2)) := by
                    have h := zK_next hKO.out
                    rw [HT.out] at h
                    show _ = _
                    rw [h]
                    simp [TxA.core]
                  have d0 := HDW.out.d0
                  have d1 := HDW.out.d1
                  have df := HDW.out.df
                  have hgD : ∀ {o : Obj} {w5 : World}, (wr.alloc o).grownBy w5 vO.ownBlock → w5.cell? ⟨D, 1, none⟩ = some vO := fun {o w5} hg => hg.cell (ext_cell (grow_alloc (Below.refl _ _) _) HDW.out.d1) (fun e => by have := (HDW.out.row.1.lt D e.symm).1; omega)
                  have hgF : ∀ {o : Obj} {w5 : World}, (wr.alloc o).grownBy w5 vO.ownBlock → ∀ i, w5.frozen? ⟨D, i, none⟩ = false := fun {o w5} hg => fz_kept hg (fun e => by have := (HDW.out.row.1.lt D e.symm).1; omega) (by have := HDW.out.lt; simp; omega) (fun i => ((grow_alloc (Below.refl wr.heap.size wr) o).frozen (p := ⟨D, i, none⟩) HDW.out.lt).trans (HDW.out.df i))
                  clear hin hi hsz GB' HS i2 HIa1 HIa2 HWa1 HWa2 HWa3 HX HXB
                  go_wp2_with (first | (at_builtin; refine wpList_append_row rfl _ _ rfl (D + 1) vO cl rfl (HDW.out.row.below (grow_alloc (Below.refl _ _) _)) _ ⟨a1, a2, a3, k1, k2, k3, l2, l3, l4⟩ 1 rfl (news_lit wr [.slice a1 l2.length k1, .slice a2 l3.length k2, .slice a3 l4.length k3] 38 _ rfl) (HM.out _) (by omega) (by have := HDW.out.lt; simp; omega) ?_; intro v' w5 hown' hgrow; obtain ⟨g5, cap5, hv5, _, _⟩ := hown'.1.form (by simp); subst hv5; have HO5 := hid hown'; have HG5 := hid hgrow; clear hown' hgrow; have d1 := hgD HG5.out; have df := hgF HG5.out) | go_in)
                  have HF := hid (StD.app (HDW.out.gb (World.grownBy_alloc _ _ _) (HDW.out.r.alloc _) hwP hRP hPD) HG5.out HO5.out hwP hRP hPD)
                  have hlen : (cl ++ [(⟨a1, a2, a3, k1, k2, k3, l2, l3, l4⟩ : TxA)]).length = cl.length + 1 := by simp
                  rw [hlen] at HF
                  clear HO5 HG5 HDW d0 d1 df hgD hgF hlen
                  go_roundw
                  case rel => exact ⟨nO, cl ++ [⟨a1, a2, a3, k1, k2, k3, l2, l3, l4⟩], r4, .slice (some ⟨g5, 0, none⟩) (cl.length + 1) cap5, by go_num, by simp; omega, HKT, HF⟩
                  case measure => simp [intOf]
                | succ n4 =>
                  have i2 : (0 : Int) < ((n4 + 1 : Nat) : Int) := by omega
                  have hvb : Hid (∀ j, v4.ownBlock = some j → j < wr.heap.size) := fun j hj => (HS.out.row.lt j hj).2
                  have HKZ : Hid (zK zS N4 q5 = ((l4 ++ [(⟨(zN r4).1, (zN (zN r4).2).1, (zO (zN (zN r4).2).2).1.1, (zO (zN (zN r4).2).2).1.2, (zO (zO (zN (zN r4).2).2).2).1.1, (zO (zO (zN (zN r4).2).2).2).1.2⟩ : St)]) ++ (zK zS n4 (zO (zO (zN (zN r4).2).2).2).2).1, (zK zS n4 (zO (zO (zN (zN r4).2).2).2).2).2)) := zK_next hK4.out
                  clear hK4
                  go_wp2_with fail
                  refine (zByte_any P r4 _ HS.out.r).mono ?_
                  rintro e w3 ⟨rfl, h3, g⟩
                  generalize (zN r4).1 = kd at *
                  generalize (zN r4).2 = q1 at *
                  have HS3 := hid (HS.out.call g h3 hXP hP4)
                  have hvG : Hid (∀ j, v4.ownBlock = some j → j < w3.heap.size) := fun j hj => Nat.lt_of_lt_of_le (hvb.out j hj) g.size
                  have hGw : z4.heap.size ≤ w3.heap.size := Nat.le_trans HS.out.k.size g.size
                  clear h3 g HS hvb x0 x1 x2 xf
                  obtain ⟨VG, hVG⟩ : ∃ V, V = w3.alloc (.cells #[.int .i64 kd, .int .i64 0, .int .i64 0, .int .i64 0, .int .i64 0, .int .i64 0] 47) := ⟨_, rfl⟩
                  have HVG : Hid (VG = w3.alloc (.cells #[.int .i64 kd, .int .i64 0, .int .i64 0, .int .i64 0, .int .i64 0, .int .i64 0] 47)) := hVG
                  have HSG := hid (show St3 _ _ _ VG _ _ _ _ _ _ _ _ _ by subst hVG; exact HS3.out.alloc _)
                  have hGV : Hid (w3.heap.size < VG.heap.size) := by subst hVG; show _ < _; simp
                  have g0 : VG.cell? ⟨w3.heap.size, 0, none⟩ = some (.int .i64 kd) := by subst hVG; simp
                  have g1 : VG.cell? ⟨w3.heap.size, 1, none⟩ = some (.int .i64 0) := by subst hVG; simp
                  have g2 : VG.cell? ⟨w3.heap.size, 2, none⟩ = some (.int .i64 0) := by subst hVG; simp
                  have g3 : VG.cell? ⟨w3.heap.size, 3, none⟩ = some (.int .i64 0) := by subst hVG; simp
                  have g4 : VG.cell? ⟨w3.heap.size, 4, none⟩ = some (.int .i64 0) := by subst hVG; simp
                  have g5 : VG.cell? ⟨w3.heap.size, 5, none⟩ = some (.int .i64 0) := by subst hVG; simp
                  have gf : ∀ i, VG.frozen? ⟨w3.heap.size, i, none⟩ = false := by subst hVG; intro i; simp
                  have hGP : w3.heap.size ≠ P := by omega
                  clear hVG HS3
                  go_upto_region 22 with fail
                  rw [← HVG.out]
                  clear HVG
                  generalize w3.heap.size = G at *
                  go_wp2_with fail
                  refine (zByte_any P q1 _ HSG.out.r).mono ?_
                  rintro e w4 ⟨rfl, h4, g⟩
                  generalize (zN q1).1 = op at *
                  generalize (zN q1).2 = q2 at *
                  have HS4 := hid (HSG.out.call g h4 hXP hP4)
                  have g0 := gb_cell g hGP g0
                  have g1 := gb_cell g hGP g1
                  have g2 := gb_cell g hGP g2
                  have g3 := gb_cell g hGP g3
                  have g4 := gb_cell g hGP g4
                  have g5 := gb_cell g hGP g5
                  have gf := gb_frozen g hGP hGV.out gf
                  have hGV4 : Hid (G < w4.heap.size) := Nat.lt_of_lt_of_le hGV.out g.size
                  clear h4 g HSG hGV
                  go_upto_region 23 with fail
                  obtain ⟨V3, hV⟩ : ∃ V, V = w4.setCell ⟨G, 1, none⟩ (.int .i64 op) := ⟨_, rfl⟩
                  have HSG := hid (show St3 _ _ _ V3 _ _ _ _ _ _ _ _ _ by subst hV; exact HS4.out.set hGw hX4 hP4 hvG.out)
                  have hGV : Hid (G < V3.heap.size) := by subst hV; show _ < _; simpa using hGV4.out
                  have k1 : V3.cell? ⟨G, 1, none⟩ = some (.int .i64 op) := by subst hV; exact set_here g1
                  have k0 := set_off (v := .int .i64 op) (j := 1) (by decide) g0
                  rw [← hV] at k0
                  have k2 := set_off (v := .int .i64 op) (j := 1) (by decide) g2
                  rw [← hV] at k2
                  have k3 := set_off (v := .int .i64 op) (j := 1) (by decide) g3
                  rw [← hV] at k3
                  have k4 := set_off (v := .int .i64 op) (j := 1) (by decide) g4
                  rw [← hV] at k4
                  have k5 := set_off (v := .int .i64 op) (j := 1) (by decide) g5
                  rw [← hV] at k5
                  have kf : ∀ i, V3.frozen? ⟨G, i, none⟩ = false := by subst hV; intro i; exact (fz_set _ _ _ _ _ _).trans (gf i)
                  clear g0 g1 g2 g3 g4 g5 gf HS4 hGV4
                  rw [← hV]
                  clear hV
                  have g0 := k0
                  have g1 := k1
                  have g2 := k2
                  have g3 := k3
                  have g4 := k4
                  have g5 := k5
                  have gf := kf
                  clear kf k0 k1 k2 k3 k4 k5
                  go_wp2_with fail
                  refine (zOper_any P q2 _ HSG.out.r).mono ?_
                  rintro e w4 ⟨rfl, h4, g⟩
                  generalize (zO q2).1.1 = ak at *
                  generalize (zO q2).1.2 = an at *
                  generalize (zO q2).2 = q6 at *
                  have HS4 := hid (HSG.out.call g h4 hXP hP4)
                  have g0 := gb_cell g hGP g0
                  have g1 := gb_cell g hGP g1
                  have g2 := gb_cell g hGP g2
                  have g3 := gb_cell g hGP g3
                  have g4 := gb_cell g hGP g4
                  have g5 := gb_cell g hGP g5
                  have gf := gb_frozen g hGP hGV.out gf
                  have hGV4 : Hid (G < w4.heap.size) := Nat.lt_of_lt_of_le hGV.out g.size
                  clear h4 g HSG hGV
                  go_upto_region 24 with fail
                  obtain ⟨V5, hV⟩ : ∃ V, V = (w4.setCell ⟨G, 2, none⟩ (.int .i64 ak)).setCell ⟨G, 3, none⟩ (.int .i64 an) := ⟨_, rfl⟩
                  have HSG := hid (show St3 _ _ _ V5 _ _ _ _ _ _ _ _ _ by subst hV; exact (HS4.out.set hGw hX4 hP4 hvG.out).set hGw hX4 hP4 hvG.out)
                  have hGV : Hid (G < V5.heap.size) := by subst hV; show _ < _; simpa using hGV4.out
                  have k0 := (show _ from by exact (set_off (w := w4.setCell ⟨G, 2, none⟩ (.int .i64 ak)) (v := .int .i64 an) (j := 3) (by decide) (set_off (v := .int .i64 ak) (j := 2) (by decide) g0)))
                  rw [← hV] at k0
                  have k1 := (show _ from by exact (set_off (w := w4.setCell ⟨G, 2, none⟩ (.int .i64 ak)) (v := .int .i64 an) (j := 3) (by decide) (set_off (v := .int .i64 ak) (j := 2) (by decide) g1)))
                  rw [← hV] at k1
                  have k2 : V5.cell? ⟨G, 2, none⟩ = some (.int .i64 ak) := by subst hV; exact set_off (by decide) (set_here g2)
                  have k3 : V5.cell? ⟨G, 3, none⟩ = some (.int .i64 an) := by subst hV; exact set_here (set_off (by decide) g3)
                  have k4 := (show _ from by exact (set_off (w := w4.setCell ⟨G, 2, none⟩ (.int .i64 ak)) (v := .int .i64 an) (j := 3) (by decide) (set_off (v := .int .i64 ak) (j := 2) (by decide) g4)))
                  rw [← hV] at k4
                  have k5 := (show _ from by exact (set_off (w := w4.setCell ⟨G, 2, none⟩ (.int .i64 ak)) (v := .int .i64 an) (j := 3) (by decide) (set_off (v := .int .i64 ak) (j := 2) (by decide) g5)))
                  rw [← hV] at k5
                  have kf : ∀ i, V5.frozen? ⟨G, i, none⟩ = false := by subst hV; intro i; exact (fz_set _ _ _ _ _ _).trans ((fz_set _ _ _ _ _ _).trans (gf i))
                  clear g0 g1 g2 g3 g4 g5 gf HS4 hGV4
                  rw [← hV]
                  clear hV
                  have g0 := k0
                  have g1 := k1
                  have g2 := k2
                  have g3 := k3
                  have g4 := k4
                  have g5 := k5
                  have gf := kf
                  clear kf k0 k1 k2 k3 k4 k5
                  go_wp2_with fail
                  refine (zOper_any P q6 _ HSG.out.r).mono ?_
                  rintro e w4 ⟨rfl, h4, g⟩
                  generalize (zO q6).1.1 = bk at *
                  generalize (zO q6).1.2 = bn at *
                  generalize (zO q6).2 = q7 at *
                  have HS4 := hid (HSG.out.call g h4 hXP hP4)
                  have g0 := gb_cell g hGP g0
                  have g1 := gb_cell g hGP g1
                  have g2 := gb_cell g hGP g2
                  have g3 := gb_cell g hGP g3
                  have g4 := gb_cell g hGP g4
                  have g5 := gb_cell g hGP g5
                  have gf := gb_frozen g hGP hGV.out gf
                  have hGV4 : Hid (G < w4.heap.size) := Nat.lt_of_lt_of_le hGV.out g.size
                  clear h4 g HSG hGV
                  go_upto_region 25 with fail
                  obtain ⟨V6, hV⟩ : ∃ V, V = (w4.setCell ⟨G, 4, none⟩ (.int .i64 bk)).setCell ⟨G, 5, none⟩ (.int .i64 bn) := ⟨_, rfl⟩
                  have HSG := hid (show St3 _ _ _ V6 _ _ _ _ _ _ _ _ _ by subst hV; exact (HS4.out.set hGw hX4 hP4 hvG.out).set hGw hX4 hP4 hvG.out)
                  have hGV : Hid (G < V6.heap.size) := by subst hV; show _ < _; simpa using hGV4.out
                  have k0 := (show _ from by exact (set_off (w := w4.setCell ⟨G, 4, none⟩ (.int .i64 bk)) (v := .int .i64 bn) (j := 5) (by decide) (set_off (v := .int .i64 bk) (j := 4) (by decide) g0)))
                  rw [← hV] at k0
                  have k1 := (show _ from by exact (set_off (w := w4.setCell ⟨G, 4, none⟩ (.int .i64 bk)) (v := .int .i64 bn) (j := 5) (by decide) (set_off (v := .int .i64 bk) (j := 4) (by decide) g1)))
                  rw [← hV] at k1
                  have k2 := (show _ from by exact (set_off (w := w4.setCell ⟨G, 4, none⟩ (.int .i64 bk)) (v := .int .i64 bn) (j := 5) (by decide) (set_off (v := .int .i64 bk) (j := 4) (by decide) g2)))
                  rw [← hV] at k2
                  have k3 := (show _ from by exact (set_off (w := w4.setCell ⟨G, 4, none⟩ (.int .i64 bk)) (v := .int .i64 bn) (j := 5) (by decide) (set_off (v := .int .i64 bk) (j := 4) (by decide) g3)))
                  rw [← hV] at k3
                  have k4 : V6.cell? ⟨G, 4, none⟩ = some (.int .i64 bk) := by subst hV; exact set_off (by decide) (set_here g4)
                  have k5 : V6.cell? ⟨G, 5, none⟩ = some (.int .i64 bn) := by subst hV; exact set_here (set_off (by decide) g5)
                  have kf : ∀ i, V6.frozen? ⟨G, i, none⟩ = false := by subst hV; intro i; exact (fz_set _ _ _ _ _ _).trans ((fz_set _ _ _ _ _ _).trans (gf i))
                  clear g0 g1 g2 g3 g4 g5 gf HS4 hGV4
                  rw [← hV]
                  clear hV
                  have g0 := k0
                  have g1 := k1
                  have g2 := k2
                  have g3 := k3
                  have g4 := k4
                  have g5 := k5
                  have gf := kf
                  clear kf k0 k1 k2 k3 k4 k5
                  have x0 := HSG.out.c0
                  have x1 := HSG.out.c1
                  have x2 := HSG.out.c2
                  have xf := HSG.out.f
                  have HS5 := HSG
                  clear HSG
                  go_wp2_with (first | (at_builtin; refine wpList_append_own _ rfl _ _ 36 rfl z4.heap.size 47 i47 (.agg #[.int .i64 0, .int .i64 0, .int .i64 0, .int .i64 0, .int .i64 0, .int .i64 0]) 6 48 Try.underlying36 hi47 hz470 hz471 hz472 rfl (by decide) _ _ _ rfl (HS5.out.row.alloc _) _ 1 1 [.int .i64 kd, .int .i64 op, .int .i64 ak, .int .i64 an, .int .i64 bk, .int .i64 bn] rfl rfl (news_lit V6 [.int .i64 kd, .int .i64 op, .int .i64 ak, .int .i64 an, .int .i64 bk, .int .i64 bn] 47 _ rfl) (scells_one ⟨kd, op, ak, an, bk, bn⟩) (by unfold maxLen; omega) (by omega) (by have := HS5.out.k.size; simp; omega) ?_; intro v' w5 hown' hgrow _; obtain ⟨g5, cap5, hv5, _, _⟩ := hown'.form (Nat.succ_pos _); subst hv5; have HO5 := hid hown'; have HG5 := hid hgrow; clear hown' hgrow; have x0 := ((HS5.out.alloc _).app HG5.out HO5.out hX4 hP4).c0; have x1 := ((HS5.out.alloc _).app HG5.out HO5.out hX4 hP4).c1; have x2 := ((HS5.out.alloc _).app HG5.out HO5.out hX4 hP4).c2; have xf := ((HS5.out.alloc _).app HG5.out HO5.out hX4 hP4).f) | go_in)
                  have HS6 := hid ((HS5.out.alloc _).app HG5.out HO5.out hX4 hP4)
                  clear HO5 HG5 HS5
                  go_roundw
                  case rel =>
                    refine ⟨n4, l4 ++ [⟨kd, op, ak, an, bk, bn⟩], q7, .slice (some ⟨g5, 0, none⟩) (l4.length + 1) cap5, by go_num, by simp; omega, HKZ, ?_⟩
                    show St3 _ _ _ _ _ _ _ _ _ _ _ _ _
                    rw [List.length_append, flatS_snoc]
                    exact HS6.out.set2 hX4 hXP
                  case measure => simp [intOf]
            | succ n3 =>
              have i2 : (0 : Int) < ((n3 + 1 : Nat) : Int) := by omega
              have hvb : Hid (∀ j, v3.ownBlock = some j → j < wr.heap.size) := fun j hj => (HS.out.row.lt j hj).2
              have HKZ : Hid (zK zG N3 q3 = ((l3 ++ [(⟨(zN r3).1, (zO (zN r3).2).1.1, (zO (zN r3).2).1.2, (zO (zO (zN r3).2).2).1.1, (zO (zO (zN r3).2).2).1.2⟩ : Gd)]) ++ (zK zG n3 (zO (zO (zN r3).2).2).2).1, (zK zG n3 (zO (zO (zN r3).2).2).2).2)) := zK_next hK3.out
              clear hK3
              go_wp2_with fail
              refine (zByte_any P r3 _ HS.out.r).mono ?_
              rintro e w3 ⟨rfl, h3, g⟩
              generalize (zN r3).1 = kd at *
              generalize (zN r3).2 = q1 at *
              have HS3 := hid (HS.out.call g h3 hXP hP3)
              have hvG : Hid (∀ j, v3.ownBlock = some j → j < w3.heap.size) := fun j hj => Nat.lt_of_lt_of_le (hvb.out j hj) g.size
              have hGw : z3.heap.size ≤ w3.heap.size := Nat.le_trans HS.out.k.size g.size
              clear h3 g HS hvb x0 x1 x2 xf
              obtain ⟨VG, hVG⟩ : ∃ V, V = w3.alloc (.cells #[.int .i64 kd, .int .i64 0, .int .i64 0, .int .i64 0, .int .i64 0] 101) := ⟨_, rfl⟩
              have HVG : Hid (VG = w3.alloc (.cells #[.int .i64 kd, .int .i64 0, .int .i64 0, .int .i64 0, .int .i64 0] 101)) := hVG
              have HSG := hid (show St3 _ _ _ VG _ _ _ _ _ _ _ _ _ by subst hVG; exact HS3.out.alloc _)
              have hGV : Hid (w3.heap.size < VG.heap.size) := by subst hVG; show _ < _; simp
              have g0 : VG.cell? ⟨w3.heap.size, 0, none⟩ = some (.int .i64 kd) := by subst hVG; simp
              have g1 : VG.cell? ⟨w3.heap.size, 1, none⟩ = some (.int .i64 0) := by subst hVG; simp
              have g2 : VG.cell? ⟨w3.heap.size, 2, none⟩ = some (.int .i64 0) := by subst hVG; simp
              have g3 : VG.cell? ⟨w3.heap.size, 3, none⟩ = some (.int .i64 0) := by subst hVG; simp
              have g4 : VG.cell? ⟨w3.heap.size, 4, none⟩ = some (.int .i64 0) := by subst hVG; simp
              have gf : ∀ i, VG.frozen? ⟨w3.heap.size, i, none⟩ = false := by subst hVG; intro i; simp
              have hGP : w3.heap.size ≠ P := by omega
              clear hVG HS3
              go_upto_region 15 with fail
              rw [← HVG.out]
              clear HVG
              generalize w3.heap.size = G at *
              go_wp2_with fail
              refine (zOper_any P q1 _ HSG.out.r).mono ?_
              rintro e w4 ⟨rfl, h4, g⟩
              generalize (zO q1).1.1 = ak at *
              generalize (zO q1).1.2 = an at *
              generalize (zO q1).2 = q2 at *
              have HS4 := hid (HSG.out.call g h4 hXP hP3)
              have g0 := gb_cell g hGP g0
              have g1 := gb_cell g hGP g1
              have g2 := gb_cell g hGP g2
              have g3 := gb_cell g hGP g3
              have g4 := gb_cell g hGP g4
              have gf := gb_frozen g hGP hGV.out gf
              have hGV4 : Hid (G < w4.heap.size) := Nat.lt_of_lt_of_le hGV.out g.size
              clear h4 g HSG hGV
              go_upto_region 16 with fail
              obtain ⟨V4, hV⟩ : ∃ V, V = (w4.setCell ⟨G, 1, none⟩ (.int .i64 ak)).setCell ⟨G, 2, none⟩ (.int .i64 an) := ⟨_, rfl⟩
              have HSG := hid (show St3 _ _ _ V4 _ _ _ _ _ _ _ _ _ by subst hV; exact (HS4.out.set hGw hX3 hP3 hvG.out).set hGw hX3 hP3 hvG.out)
              have hGV : Hid (G < V4.heap.size) := by subst hV; show _ < _; simpa using hGV4.out
              have k0 := (show _ from by exact (set_off (w := w4.setCell ⟨G, 1, none⟩ (.int .i64 ak)) (v := .int .i64 an) (j := 2) (by decide) (set_off (v := .int .i64 ak) (j := 1) (by decide) g0)))
              rw [← hV] at k0
              have k1 : V4.cell? ⟨G, 1, none⟩ = some (.int .i64 ak) := by subst hV; exact set_off (by decide) (set_here g1)
              have k2 : V4.cell? ⟨G, 2, none⟩ = some (.int .i64 an) := by subst hV; exact set_here (set_off (by decide) g2)
              have k3 := (show _ from by exact (set_off (w := w4.setCell ⟨G, 1, none⟩ (.int .i64 ak)) (v := .int .i64 an) (j := 2) (by decide) (set_off (v := .int .i64 ak) (j := 1) (by decide) g3)))
              rw [← hV] at k3
              have k4 := (show _ from by exact (set_off (w := w4.setCell ⟨G, 1, none⟩ (.int .i64 ak)) (v := .int .i64 an) (j := 2) (by decide) (set_off (v := .int .i64 ak) (j := 1) (by decide) g4)))
              rw [← hV] at k4
              have kf : ∀ i, V4.frozen? ⟨G, i, none⟩ = false := by subst hV; intro i; exact (fz_set _ _ _ _ _ _).trans ((fz_set _ _ _ _ _ _).trans (gf i))
              clear g0 g1 g2 g3 g4 gf HS4 hGV4
              rw [← hV]
              clear hV
              have g0 := k0
              have g1 := k1
              have g2 := k2
              have g3 := k3
              have g4 := k4
              have gf := kf
              clear kf k0 k1 k2 k3 k4
              go_wp2_with fail
              refine (zOper_any P q2 _ HSG.out.r).mono ?_
              rintro e w4 ⟨rfl, h4, g⟩
              generalize (zO q2).1.1 = bk at *
              generalize (zO q2).1.2 = bn at *
              generalize (zO q2).2 = q4 at *
              have HS4 := hid (HSG.out.call g h4 hXP hP3)
              have g0 := gb_cell g hGP g0
              have g1 := gb_cell g hGP g1
              have g2 := gb_cell g hGP g2
              have g3 := gb_cell g hGP g3
              have g4 := gb_cell g hGP g4
              have gf := gb_frozen g hGP hGV.out gf
              have hGV4 : Hid (G < w4.heap.size) := Nat.lt_of_lt_of_le hGV.out g.size
              clear h4 g HSG hGV
              go_upto_region 17 with fail
              obtain ⟨V6, hV⟩ : ∃ V, V = (w4.setCell ⟨G, 3, none⟩ (.int .i64 bk)).setCell ⟨G, 4, none⟩ (.int .i64 bn) := ⟨_, rfl⟩
              have HSG := hid (show St3 _ _ _ V6 _ _ _ _ _ _ _ _ _ by subst hV; exact (HS4.out.set hGw hX3 hP3 hvG.out).set hGw hX3 hP3 hvG.out)
              have hGV : Hid (G < V6.heap.size) := by subst hV; show _ < _; simpa using hGV4.out
              have k0 := (show _ from by exact (set_off (w := w4.setCell ⟨G, 3, none⟩ (.int .i64 bk)) (v := .int .i64 bn) (j := 4) (by decide) (set_off (v := .int .i64 bk) (j := 3) (by decide) g0)))
              rw [← hV] at k0
              have k1 := (show _ from by exact (set_off (w := w4.setCell ⟨G, 3, none⟩ (.int .i64 bk)) (v := .int .i64 bn) (j := 4) (by decide) (set_off (v := .int .i64 bk) (j := 3) (by decide) g1)))
              rw [← hV] at k1
              have k2 := (show _ from by exact (set_off (w := w4.setCell ⟨G, 3, none⟩ (.int .i64 bk)) (v := .int .i64 bn) (j := 4) (by decide) (set_off (v := .int .i64 bk) (j := 3) (by decide) g2)))
              rw [← hV] at k2
              have k3 : V6.cell? ⟨G, 3, none⟩ = some (.int .i64 bk) := by subst hV; exact set_off (by decide) (set_here g3)
              have k4 : V6.cell? ⟨G, 4, none⟩ = some (.int .i64 bn) := by subst hV; exact set_here (set_off (by decide) g4)
              have kf : ∀ i, V6.frozen? ⟨G, i, none⟩ = false := by subst hV; intro i; exact (fz_set _ _ _ _ _ _).trans ((fz_set _ _ _ _ _ _).trans (gf i))
              clear g0 g1 g2 g3 g4 gf HS4 hGV4
              rw [← hV]
              clear hV
              have g0 := k0
              have g1 := k1
              have g2 := k2
              have g3 := k3
              have g4 := k4
              have gf := kf
              clear kf k0 k1 k2 k3 k4
              have x0 := HSG.out.c0
              have x1 := HSG.out.c1
              have x2 := HSG.out.c2
              have xf := HSG.out.f
              have HS5 := HSG
              clear HSG
              go_wp2_with (first | (at_builtin; refine wpList_append_own _ rfl _ _ 35 rfl z3.heap.size 101 i101 (.agg #[.int .i64 0, .int .i64 0, .int .i64 0, .int .i64 0, .int .i64 0]) 5 40 Try.underlying35 hi101 hz1010 hz1011 hz1012 rfl (by decide) _ _ _ rfl (HS5.out.row.alloc _) _ 1 1 [.int .i64 kd, .int .i64 ak, .int .i64 an, .int .i64 bk, .int .i64 bn] rfl rfl (news_lit V6 [.int .i64 kd, .int .i64 ak, .int .i64 an, .int .i64 bk, .int .i64 bn] 101 _ rfl) (gcells_one ⟨kd, ak, an, bk, bn⟩) (by unfold maxLen; omega) (by omega) (by have := HS5.out.k.size; simp; omega) ?_; intro v' w5 hown' hgrow _; obtain ⟨g5, cap5, hv5, _, _⟩ := hown'.form (Nat.succ_pos _); subst hv5; have HO5 := hid hown'; have HG5 := hid hgrow; clear hown' hgrow; have x0 := ((HS5.out.alloc _).app HG5.out HO5.out hX3 hP3).c0; have x1 := ((HS5.out.alloc _).app HG5.out HO5.out hX3 hP3).c1; have x2 := ((HS5.out.alloc _).app HG5.out HO5.out hX3 hP3).c2; have xf := ((HS5.out.alloc _).app HG5.out HO5.out hX3 hP3).f) | go_in)
              have HS6 := hid ((HS5.out.alloc _).app HG5.out HO5.out hX3 hP3)
              clear HO5 HG5 HS5
              go_roundw
              case rel =>
                refine ⟨n3, l3 ++ [⟨kd, ak, an, bk, bn⟩], q4, .slice (some ⟨g5, 0, none⟩) (l3.length + 1) cap5, by go_num, by simp; omega, HKZ, ?_⟩
                show St3 _ _ _ _ _ _ _ _ _ _ _ _ _
                rw [List.length_append, flat_snoc]
                exact HS6.out.set1 hX3 hXP
              case measure => simp [intOf]
        | succ n2 =>
          have i2 : (0 : Int) < ((n2 + 1 : Nat) : Int) := by omega
          have hvb : Hid (∀ j, v2.ownBlock = some j → j < wr.heap.size) := fun j hj => (HS.out.row.lt j hj).2
          have HK2 := hid (zK_next hK2.out)
          have hb := zN_byt HS.out.r.byt
          clear hK2
          go_upto_region 10 with fail
          go_region_law (first | (revert HSW; intro HSW; refine step_append_keep (by rfl) _ _ _ (by rfl) z2.heap.size 3 i3 (.int .i64 0) 8 Try.underlying22 hi3 hz30 hz31 hz32 rfl v2 l2.length (l2.map (Value.int .i64)) (by rfl) (HSW.out.row.alloc _) _ 1 1 [.int .i64 b] (by rfl) (by rfl) (news_lit w3 [.int .i64 b] 3 _ rfl) (ints_oneCell .i64 [b]) (by unfold maxLen; omega) (by omega) (by have := HSW.out.k.size; simp; omega) ?_; intro v' w5 ho3 hg3 hkeep; obtain ⟨g5, cap5, hv5, _, _⟩ := ho3.form (Nat.succ_pos _); subst hv5; have HS5 := hid ((HSW.out.alloc _).app hg3 ho3 hX2 hP2); have y0 := HS5.out.c0; have yf := HS5.out.f; clear ho3 hg3 hkeep) | (go_simp; go_at_call 66; refine (zByte_any P r2 wr.drew HS.out.r).mono ?_; rintro e w3 ⟨rfl, h3, g⟩; have HSW := hid (HS.out.call (c2 := w3) ⟨g.os, g.tape, g.output, g.size, g.block⟩ h3 hXP hP2); have x0 := HSW.out.c0; have x0a : ∀ o, (w3.alloc o).cell? ⟨X, 0, none⟩ = some v2 := fun o => (HSW.out.alloc o).c0; clear h3 g; generalize (zN r2).1 = b at *; generalize (zN r2).2 = r' at *; go_wp2_with fail))
          all_goals (
            go_wp2_with fail
            go_roundw
            case rel =>
              refine ⟨n2, l2 ++ [b], r', .slice (some ⟨g5, 0, none⟩) (l2.length + 1) cap5, by go_num, by simp; omega, HK2, ?_⟩
              show St3 _ _ _ _ _ _ _ _ _ _ _ _ _
              rw [List.length_append, map_snoc]
              exact HS5.out.set0 hX2 hXP
            case measure => simp [intOf])
end Go.Proofs.Ytcgpkonfneofdaa
