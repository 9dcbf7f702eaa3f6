/-
  The document's own SwapOf.
  Conditions: the transactions can be read.
-/
import Derived.Test.YtikolifbljnokaaGraphE
import Derived.WalkKit
import Derived.WalkSpells
import Derived.WalkLawsBesides
import Derived.ProofKit
import Derived.Deep.RegionHeld
import Derived.Deep.RegionHeld3
import Derived.BigQuiet
import Derived.Deep.RegionLaw
import Derived.Deep.DeepCutAuto
import Derived.IntWalk
namespace Go.Proofs.Ytikolifbljnokaa
open Go.RowKit

theorem own_put3 {C : Nat} {w : World} {g cap : Nat} {l : List TxA} (h : w.ownsRow C 26 3 (.slice (some ⟨g, 0, none⟩) l.length cap) l.length (flatX l)) (i : Nat) (hi : i < l.length) (x : TxA) : (put3 w g i x).ownsRow C 26 3 (.slice (some ⟨g, 0, none⟩) l.length cap) l.length (flatX (l.set i x)) := by
  rw [flatX_set l i x hi]
  exact (((h.stored (i * 3) _).1.stored (i * 3 + 1) _).1.stored (i * 3 + 2) _).1
theorem own_swap {C : Nat} {w : World} {g cap : Nat} {l : List TxA} (h : w.ownsRow C 26 3 (.slice (some ⟨g, 0, none⟩) l.length cap) l.length (flatX l)) (n : Nat) (hn : n + 1 < l.length) : (put3 (put3 w g n (l.getD (n + 1) x0)) g (n + 1) (l.getD n x0)).ownsRow C 26 3 (.slice (some ⟨g, 0, none⟩) l.length cap) l.length (flatX (swapX l n)) := by
  have h1 := own_put3 h n (by omega) (l.getD (n + 1) x0)
  have h2 := own_put3 (l := l.set n (l.getD (n + 1) x0)) (by rw [List.length_set]; exact h1) (n + 1) (by rw [List.length_set]; exact hn) (l.getD n x0)
  rw [List.length_set] at h2
  exact h2
theorem swapX_mem {l : List TxA} {n : Nat} (hn : n + 1 < l.length) {x : TxA} (h : x ∈ swapX l n) : x ∈ l := by
  unfold swapX at h
  have m1 : l.getD (n + 1) x0 ∈ l := by simp [List.getD, hn]
  have m0 : l.getD n x0 ∈ l := by
    have : n < l.length := by omega
    simp [List.getD, this]
  rcases List.mem_or_eq_of_mem_set h with h | rfl
  · rcases List.mem_or_eq_of_mem_set h with h | rfl
    · exact h
    · exact m1
  · exact m0
theorem swapX_len (l : List TxA) (n : Nat) : (swapX l n).length = l.length := by simp [swapX]
theorem IsTxs.mem {w : World} {a : Option Addr} {l : List TxA} (h : IsTxs w a l) {x : TxA} (hx : x ∈ l) : IsX w x := by
  obtain ⟨i, hi, rfl⟩ := List.mem_iff_getElem.1 hx
  obtain ⟨_, _, _, _, _, _, _, hX⟩ := h i hi
  have e : l.getD i x0 = l[i] := by simp [List.getD, hi]
  rw [e] at hX
  exact hX
theorem own_at3 {C : Nat} {w : World} {v : Value} {l : List TxA} (h : w.ownsRow C 26 3 v l.length (flatX l)) (h0 : 0 < l.length) : ∃ g cap, v = .slice (some ⟨g, 0, none⟩) l.length cap ∧ C ≤ g ∧ ∀ i, i < l.length → w.cell? ⟨g, i * 3, none⟩ = some (.slice (l.getD i x0).ra (l.getD i x0).rs.length (l.getD i x0).rc) ∧ w.cell? ⟨g, i * 3 + 1, none⟩ = some (.slice (l.getD i x0).ga (l.getD i x0).gs.length (l.getD i x0).gc) ∧ w.cell? ⟨g, i * 3 + 2, none⟩ = some (.slice (l.getD i x0).sa (l.getD i x0).ss.length (l.getD i x0).sc) ∧ w.frozen? ⟨g, i * 3, none⟩ = false ∧ w.frozen? ⟨g, i * 3 + 1, none⟩ = false ∧ w.frozen? ⟨g, i * 3 + 2, none⟩ = false := by
  rcases h.2 with ⟨rfl, h1⟩ | ⟨g, cap, cur, rfl, hb, hg, hnc, hcm, hcs, htake⟩
  · omega
  · refine ⟨g, cap, rfl, hb, fun i hi => ?_⟩
    have hc : ∀ j, j < 3 → w.cell? ⟨g, i * 3 + j, none⟩ = (xcells (l.getD i x0))[j]? := fun j hj => by
      rw [h.cellAt (i * 3 + j) (by omega)]
      exact flatX_at l i j hi hj
    exact ⟨hc 0 (by omega), hc 1 (by omega), hc 2 (by omega), h.frozenAt _, h.frozenAt _, h.frozenAt _⟩

variable (la : Option Addr) (lc : Nat) (l : List TxA)

set_option maxRecDepth 100000 in
set_option maxHeartbeats 1000000 in
theorem swapOf_bad (n : Int) (w : World) (hl : IsTxs w la l) (hm : l.length ≤ maxLen) (he : ¬ firstNZ [chkL l, nextE n l.length] = 0) :
    Calls Try.prog 17 #[.slice la l.length lc, .int .i64 n] w fun e w' => e = .returned (.tuple #[.slice none 0 0, .int .i64 (firstNZ [chkL l, nextE n l.length])]) ∧ Below w.heap.size w w' := by
  have HL : Hid (IsTxs w la l) := hl
  have hw0 : IntKind.i64.wrap ((l.length : Int) - 2) = (l.length : Int) - 2 := by
    rw [IntWalk.i64_in] <;> (unfold maxLen at hm; omega)
  by_cases hC : chkL l = 0
  · have e1 : firstNZ [chkL l, nextE n l.length] = nextE n l.length := by
      rw [nz_zero _ _ hC]
      unfold firstNZ
      split
      · rename_i h; rw [h]; rfl
      · rfl
    rw [e1] at he ⊢
    have hN : nextE n l.length = 5 := by
      unfold nextE at he ⊢
      split
      · rfl
      · rename_i h; rw [if_neg h] at he; exact absurd rfl he
    rw [hN]
    have hd : (decide ((0 : Int) ≤ n) && decide (n ≤ (l.length : Int) - 2)) = false := by
      unfold nextE at hN
      by_cases c : n < 0 ∨ (l.length : Int) - 1 ≤ n
      · by_cases c1 : n < 0
        · simp; intro h; omega
        · simp; intro h; omega
      · rw [if_neg c] at hN; omega
    have HC : Hid (chkL l = 0) := hC
    clear hl hC he hN e1
    go_enter Try.func17, Try.ntmps17
    go_wp2_with fail
    refine (checkTxns_any la lc l _ HL.out).mono ?_
    rintro e w1 ⟨rfl, hb1⟩
    rw [HC.out]
    have B1 : Hid (Below w.heap.size w w1) := hb1
    clear hb1
    go_wp2_with fail
    refine (within_any n 0 _ _).mono ?_
    rintro e w2 ⟨rfl, rfl⟩
    rw [hd]
    go_wp2
    go_ret2
    exact ⟨rfl, B1.out⟩
  · have e1 : firstNZ [chkL l, nextE n l.length] = chkL l := nz_some _ _ hC
    rw [e1]
    have hb : (chkL l != 0) = true := by simpa using hC
    clear hl hC he e1
    go_enter Try.func17, Try.ntmps17
    go_wp2_with fail
    refine (checkTxns_any la lc l _ HL.out).mono ?_
    rintro e w1 ⟨rfl, hb1⟩
    have B1 : Hid (Below w.heap.size w w1) := hb1
    clear hb1
    go_wp2
    go_ret2
    exact ⟨rfl, B1.out⟩

set_option maxRecDepth 100000 in
set_option maxHeartbeats 4000000 in
theorem swapOf_to (n : Nat) (c : Bool) (w : World) (hl : IsTxs w la l) (hm : l.length ≤ maxLen) (hn : n + 1 < l.length) (hC : chkL l = 0) (hc : clashX (gX l n) (gX l (n + 1)) = c) :
    Calls Try.prog 17 #[.slice la l.length lc, .int .i64 n] w fun e w' => (c = true ∧ e = .returned (.tuple #[.slice none 0 0, .int .i64 1]) ∧ Below w.heap.size w w') ∨ (c = false ∧ ∃ a cap, e = .returned (.tuple #[.slice a l.length cap, .int .i64 0]) ∧ IsTxs w' a (swapX l n) ∧ Below w.heap.size w w') := by
  obtain ⟨i0, hi, hz0, hz1, hz2⟩ := info_parts Try.info26
  have hl8 := chkL_small hC
  have HL : Hid (IsTxs w la l) := hl
  have HC : Hid (chkL l = 0) := hC
  have C19 : Hid (∀ w', Below w.heap.size w w' → Calls Try.prog 19 #[.agg #[.slice (l.getD n x0).ra (l.getD n x0).rs.length (l.getD n x0).rc, .slice (l.getD n x0).ga (l.getD n x0).gs.length (l.getD n x0).gc, .slice (l.getD n x0).sa (l.getD n x0).ss.length (l.getD n x0).sc], .agg #[.slice (l.getD (n + 1) x0).ra (l.getD (n + 1) x0).rs.length (l.getD (n + 1) x0).rc, .slice (l.getD (n + 1) x0).ga (l.getD (n + 1) x0).gs.length (l.getD (n + 1) x0).gc, .slice (l.getD (n + 1) x0).sa (l.getD (n + 1) x0).ss.length (l.getD (n + 1) x0).sc]] w' fun e w'' => e = .returned (.bool c) ∧ Below w'.heap.size w' w'') := fun w' hb => by
    obtain ⟨_, _, _, _, _, _, _, hx⟩ := hl n (by omega)
    obtain ⟨_, _, _, _, _, _, _, hy⟩ := hl (n + 1) hn
    have h := clashes_any _ _ w' (hx.below hb) (hy.below hb)
    rw [← hc]
    exact h
  have hw1 : IntKind.i64.wrap ((l.length : Int) - 2) = (l.length : Int) - 2 := by
    rw [IntWalk.i64_in] <;> (unfold maxLen at hm; omega)
  have hd : (decide ((0 : Int) ≤ (n : Int)) && decide ((n : Int) ≤ (l.length : Int) - 2)) = true := by simp; omega
  have i1 : (0 : Int) ≤ (n : Int) := by omega
  have i2 : (n : Int) < (l.length : Int) := by omega
  have i3 : (0 : Int) ≤ (n : Int) + 1 := by omega
  have i4 : (n : Int) + 1 < (l.length : Int) := by omega
  have i5 : ((n : Int) + 1).toNat = n + 1 := by omega
  have hw0 : IntKind.i64.wrap ((n : Int) + 1) = (n : Int) + 1 := by rw [IntWalk.i64_in] <;> omega
  clear hl hC hm hc
  go_enter Try.func17, Try.ntmps17
  go_wp2_with fail
  refine (checkTxns_any la lc l _ HL.out).mono ?_
  rintro e w1 ⟨rfl, hb1⟩
  rw [HC.out]
  obtain ⟨b, off, rfl, hbl, e0, e1, e2, _⟩ := HL.out n (by omega)
  obtain ⟨b', off', hbe, _, f0, f1, f2, _⟩ := HL.out (n + 1) hn
  injection hbe with hbe
  injection hbe with r1 r2 _
  subst r1 r2
  have d0 := ext_cell hb1 e0
  have d1 := ext_cell hb1 e1
  have d2 := ext_cell hb1 e2
  have d3 := ext_cell hb1 f0
  have d4 := ext_cell hb1 f1
  have d5 := ext_cell hb1 f2
  have B1 : Hid (Below w.heap.size w w1) := hb1
  clear e0 e1 e2 f0 f1 f2 hb1
  go_wp2_with fail
  refine (within_any n 0 _ _).mono ?_
  rintro e w2 ⟨rfl, rfl⟩
  rw [hd]
  have OS : Hid (∀ (C : Nat) (w : World) (g cap : Nat), w.ownsRow C 26 3 (.slice (some ⟨g, 0, none⟩) l.length cap) l.length (flatX l) → (put3 (put3 w g n (l.getD (n + 1) x0)) g (n + 1) (l.getD n x0)).ownsRow C 26 3 (.slice (some ⟨g, 0, none⟩) l.length cap) l.length (flatX (swapX l n))) := fun C w g cap h => own_swap h n hn
  have OA : Hid (∀ (C : Nat) (w : World) (v : Value), w.ownsRow C 26 3 v l.length (flatX l) → ∃ g cap, v = .slice (some ⟨g, 0, none⟩) l.length cap ∧ C ≤ g ∧ (∃ a0 a1 a2, w.cell? ⟨g, n * 3, none⟩ = some a0 ∧ w.cell? ⟨g, n * 3 + 1, none⟩ = some a1 ∧ w.cell? ⟨g, n * 3 + 2, none⟩ = some a2) ∧ (∃ a0 a1 a2, w.cell? ⟨g, (n + 1) * 3, none⟩ = some a0 ∧ w.cell? ⟨g, (n + 1) * 3 + 1, none⟩ = some a1 ∧ w.cell? ⟨g, (n + 1) * 3 + 2, none⟩ = some a2) ∧ ∀ j, w.frozen? ⟨g, j, none⟩ = false) := fun C w v h => by
    obtain ⟨g, cap, rfl, hg, hat⟩ := own_at3 h (by omega)
    obtain ⟨a0, a1, a2, _⟩ := hat n (by omega)
    obtain ⟨c0, c1, c2, _⟩ := hat (n + 1) hn
    exact ⟨g, cap, rfl, hg, ⟨_, _, _, a0, a1, a2⟩, ⟨_, _, _, c0, c1, c2⟩, fun j => h.frozenAt j⟩
  generalize l.getD n x0 = x at *
  generalize l.getD (n + 1) x0 = y at *
  obtain ⟨ra, ga, sa, rc, gc, sc, rs, gs, ss⟩ := x
  obtain ⟨ra', ga', sa', rc', gc', sc', rs', gs', ss'⟩ := y
  simp only [put3] at d0 d1 d2 d3 d4 d5 C19 OS
  have KS : Hid (∀ w', Below w2.heap.size w2 w' → Below w2.heap.size w2 w' ∧ w'.cell? ⟨b, off + n * 3, none⟩ = some (.slice ra rs.length rc) ∧ w'.cell? ⟨b, off + n * 3 + 1, none⟩ = some (.slice ga gs.length gc) ∧ w'.cell? ⟨b, off + n * 3 + 2, none⟩ = some (.slice sa ss.length sc) ∧ w'.cell? ⟨b, off + (n + 1) * 3, none⟩ = some (.slice ra' rs'.length rc') ∧ w'.cell? ⟨b, off + (n + 1) * 3 + 1, none⟩ = some (.slice ga' gs'.length gc') ∧ w'.cell? ⟨b, off + (n + 1) * 3 + 2, none⟩ = some (.slice sa' ss'.length sc')) := fun w' h => ⟨h, ext_cell h d0, ext_cell h d1, ext_cell h d2, ext_cell h d3, ext_cell h d4, ext_cell h d5⟩
  go_upto_region 6 with fail
  go_region_held3 (fun w' => Below w2.heap.size w2 w' ∧ w'.cell? ⟨b, off + n * 3, none⟩ = some (.slice ra rs.length rc) ∧ w'.cell? ⟨b, off + n * 3 + 1, none⟩ = some (.slice ga gs.length gc) ∧ w'.cell? ⟨b, off + n * 3 + 2, none⟩ = some (.slice sa ss.length sc) ∧ w'.cell? ⟨b, off + (n + 1) * 3, none⟩ = some (.slice ra' rs'.length rc') ∧ w'.cell? ⟨b, off + (n + 1) * 3 + 1, none⟩ = some (.slice ga' gs'.length gc') ∧ w'.cell? ⟨b, off + (n + 1) * 3 + 2, none⟩ = some (.slice sa' ss'.length sc')) ((refine KS.out _ ?_; go_split_ands; repeat (first | assumption | exact Below.refl _ _ | refine grow_drew ?_ | refine grow_alloc ?_ _ | refine grow_trans ?_ (by assumption))))
    (first
      | (go_at_call 19; refine (C19.out _ ?_).mono ?_; (refine grow_trans B1.out ?_; go_split_ands; assumption); rintro e wc ⟨rfl, hbc⟩))
  all_goals (
    go_split_ands
    have BC : Below w2.heap.size w2 wc := by assumption
    have HBC : Hid (Below w.heap.size w wc) := grow_trans B1.out BC
    have d0 := ext_cell BC d0
    have d1 := ext_cell BC d1
    have d2 := ext_cell BC d2
    have d3 := ext_cell BC d3
    have d4 := ext_cell BC d4
    have d5 := ext_cell BC d5
    clear KS C19 hbc B1 BC
    cases c with
    | true =>
      go_wp2
      go_ret2
      exact ⟨rfl, HBC.out⟩
    | false =>
      have HLC : Hid (IsTxs wc (some ⟨b, off, none⟩) l) := HL.out.below HBC.out
      have BA : Hid (Below wc.heap.size wc (wc.alloc (.cells #[] 26))) := grow_alloc (Below.refl _ _) _
      have LI : Hid (Lies (wc.alloc (.cells #[] 26)) ⟨b, off, none⟩ (flatX l)) := lies_txs (HLC.out.below BA.out)
      go_upto_region 9 with (first
        | (at_builtin; (refine wpList_append_own _ rfl _ _ 27 rfl wc.heap.size 26 i0 (.agg #[.slice none 0 0, .slice none 0 0, .slice none 0 0]) 3 72 Try.underlying27 hi hz0 hz1 hz2 rfl (by decide) _ 0 [] rfl (own_empty3 wc wc.heap.size wc.heap.size rfl (Nat.le_refl _)) ⟨b, off, none⟩ l.length lc (flatX l) rfl (flatX_len l) LI.out (flatX_one l) (by unfold maxLen; omega) (by omega) (by simp) ?_); intro v' w3 hown' hgrow _)
        | go_in)
      have ho : w3.ownsRow wc.heap.size 26 3 v' l.length (flatX l) := by simpa using hown'
      have B3 : Below wc.heap.size wc w3 := (BA.out).grown hgrow (by simp) (fun j hj => ((own_empty3 wc wc.heap.size wc.heap.size rfl (Nat.le_refl _)).lt j hj).1)
      obtain ⟨g, cap, rfl, hg, ⟨a0, a1, a2, k0, k1, k2⟩, ⟨a3, a4, a5, k3, k4, k5⟩, hfz⟩ := OA.out _ _ _ ho
      have z0 := hfz (n * 3)
      have z1 := hfz (n * 3 + 1)
      have z2 := hfz (n * 3 + 2)
      have z3 := hfz ((n + 1) * 3)
      have z4 := hfz ((n + 1) * 3 + 1)
      have z5 := hfz ((n + 1) * 3 + 2)
      have d0 := ext_cell B3 d0
      have d1 := ext_cell B3 d1
      have d2 := ext_cell B3 d2
      have d3 := ext_cell B3 d3
      have d4 := ext_cell B3 d4
      have d5 := ext_cell B3 d5
      have RO := OS.out _ _ _ _ ho
      have hwc : w.heap.size ≤ g := Nat.le_trans HBC.out.size hg
      have hbg : b ≠ g := by omega
      have HB3 : Hid (Below w.heap.size w w3) := grow_trans HBC.out B3
      have RB := grow_set (grow_set (grow_set (grow_set (grow_set (grow_set HB3.out (p := ⟨g, n * 3, none⟩) hwc (.slice ra' rs'.length rc')) (p := ⟨g, n * 3 + 1, none⟩) hwc (.slice ga' gs'.length gc')) (p := ⟨g, n * 3 + 2, none⟩) hwc (.slice sa' ss'.length sc')) (p := ⟨g, (n + 1) * 3, none⟩) hwc (.slice ra rs.length rc)) (p := ⟨g, (n + 1) * 3 + 1, none⟩) hwc (.slice ga gs.length gc)) (p := ⟨g, (n + 1) * 3 + 2, none⟩) hwc (.slice sa ss.length sc)
      obtain ⟨ta, tc, hv, hT⟩ := txs_of_owns RO (fun x hx => (HL.out.mem (swapX_mem hn hx)).below RB)
      injection hv with hv1 hv2 hv3
      subst hv1
      have HT : Hid _ := hT
      have HRB : Hid _ := RB
      clear hown' hgrow ho B3 OA OS RO hfz LI BA HLC HBC hT RB hv2 hv3
      go_wp2
      go_ret2
      exact ⟨_, ⟨_, rfl⟩, HT.out, HRB.out⟩)

set_option maxRecDepth 100000 in
theorem swapOf_any (n : Int) (w : World) (hl : IsTxs w la l) (hm : l.length ≤ maxLen) :
    Calls Try.prog 17 #[.slice la l.length lc, .int .i64 n] w fun e w' => ∃ a cap, e = .returned (.tuple #[.slice a (swL l n).length cap, .int .i64 (swE l n)]) ∧ IsTxs w' a (swL l n) ∧ Below w.heap.size w w' := by
  by_cases he : firstNZ [chkL l, nextE n l.length] = 0
  · have hz := firstNZ_zero _ he
    have hC : chkL l = 0 := by simpa using hz 0
    have hN := nextE_zero (n := n) (k := l.length) (by simpa using hz 1)
    obtain ⟨k, rfl⟩ : ∃ k : Nat, n = k := ⟨n.toNat, by omega⟩
    have e0 : swE l k = if clashX (gX l k) (gX l (k + 1)) = true then 1 else 0 := if_pos he
    refine (swapOf_to la lc l k _ w hl hm (by omega) hC rfl).mono ?_
    rintro e w' (⟨hc, rfl, hb⟩ | ⟨hc, a, cap, rfl, hT, hb⟩)
    · have e1 : swE l k = 1 := by rw [e0, hc]; rfl
      have e2 : swL l k = [] := if_neg (by rw [e1]; decide)
      rw [e1, e2]
      exact ⟨none, 0, rfl, fun i hi => absurd hi (by simp), hb⟩
    · have e1 : swE l k = 0 := by rw [e0, hc]; rfl
      have e2 : swL l k = swapX l k := if_pos e1
      rw [e1, e2, swapX_len]
      exact ⟨a, cap, rfl, hT, hb⟩
  · have e1 : swE l n = firstNZ [chkL l, nextE n l.length] := if_neg he
    have e2 : swL l n = [] := if_neg (by rw [e1]; exact he)
    rw [e1, e2]
    exact (swapOf_bad la lc l n w hl hm he).mono fun e w' ⟨h1, h2⟩ => ⟨none, 0, h1, fun i hi => absurd hi (by simp), h2⟩
end Go.Proofs.Ytikolifbljnokaa
