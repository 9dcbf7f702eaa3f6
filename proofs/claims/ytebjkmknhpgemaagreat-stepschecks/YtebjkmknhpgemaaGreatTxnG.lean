/-
  txn.Locks and the document's LocksOf: the keys that are read or set, rising, none twice; Write, if it is set.
  Conditions: the transaction can be read.
-/
import Derived.Test.YtebjkmknhpgemaaGreatTxnE
import Derived.Maps.AppendAt
import Derived.WalkKit
import Derived.WalkSpells
import Derived.WalkLawsBesides
import Derived.Defers
import Derived.Recover
import Derived.ProofKit
import Derived.Deep.RegionHeld
import Derived.Deep.RegionHeld3
import Derived.BigQuiet
namespace Go.Proofs.YtebjkmknhpgemaaGreat
open Go.RowKit

/-- The locks of the keys below n: those that are set, or read; Write, if it is set. -/
def lkTo (rs ks : List Int) : Nat → List (Int × Bool)
  | 0 => []
  | n + 1 => lkTo rs ks n ++ (if (n : Int) ∈ ks ∨ (n : Int) ∈ rs then [((n : Int), decide ((n : Int) ∈ ks))] else [])
def cellsL (l : List (Int × Bool)) : List Value := l.flatMap fun p => [.int .i64 p.1, .bool p.2]
def lksOf (rs : List Int) (gs : List Gd) (ss : List St) : List (Int × Bool) := if chkTx rs gs ss = 0 then lkTo rs (keysOf ss) 8 else []

set_option maxRecDepth 100000 in
theorem lkTo_len (rs ks : List Int) : ∀ n, (lkTo rs ks n).length ≤ n
  | 0 => Nat.le_refl _
  | n + 1 => by
    have := lkTo_len rs ks n
    unfold lkTo
    split <;> simp <;> omega
set_option maxRecDepth 100000 in
theorem cellsL_append (l m : List (Int × Bool)) : cellsL (l ++ m) = cellsL l ++ cellsL m := by simp [cellsL]
set_option maxRecDepth 100000 in
theorem lkTo_set (rs ks : List Int) (n : Nat) (h : (n : Int) ∈ ks) : lkTo rs ks (n + 1) = lkTo rs ks n ++ [((n : Int), true)] := by
  rw [lkTo, if_pos (.inl h)]; simp [h]
set_option maxRecDepth 100000 in
theorem lkTo_read (rs ks : List Int) (n : Nat) (h : ¬ (n : Int) ∈ ks) (h' : (n : Int) ∈ rs) : lkTo rs ks (n + 1) = lkTo rs ks n ++ [((n : Int), false)] := by
  rw [lkTo, if_pos (.inr h')]; simp [h]
set_option maxRecDepth 100000 in
theorem lkTo_none (rs ks : List Int) (n : Nat) (h : ¬ (n : Int) ∈ ks) (h' : ¬ (n : Int) ∈ rs) : lkTo rs ks (n + 1) = lkTo rs ks n := by
  rw [lkTo, if_neg (by simp [h, h'])]; simp

/-- A list of locks that can be read. -/
def IsLks (w : World) (a : Option Addr) (l : List (Int × Bool)) : Prop :=
  ∀ i, i < l.length → ∃ b off, a = some ⟨b, off, none⟩ ∧ b < w.heap.size ∧ w.cell? ⟨b, off + i * 2, none⟩ = some (.int .i64 (l.getD i (0, false)).1) ∧ w.cell? ⟨b, off + i * 2 + 1, none⟩ = some (.bool (l.getD i (0, false)).2)

set_option maxRecDepth 100000 in
theorem IsLks.below {w w' : World} {a : Option Addr} {l : List (Int × Bool)} (h : IsLks w a l) (hb : Below w.heap.size w w') : IsLks w' a l := by
  intro i hi
  obtain ⟨b, off, ha, hlt, h0, h1⟩ := h i hi
  refine ⟨b, off, ha, Nat.lt_of_lt_of_le hlt hb.size, ?_, ?_⟩ <;> (rw [hb.cell hlt]; assumption)

set_option maxRecDepth 100000 in
theorem cellsL_get : ∀ (l : List (Int × Bool)) (i : Nat), i < l.length → (cellsL l)[i * 2]? = some (.int .i64 (l.getD i (0, false)).1) ∧ (cellsL l)[i * 2 + 1]? = some (.bool (l.getD i (0, false)).2)
  | [], i, h => by simp at h
  | p :: t, 0, _ => by simp [cellsL]
  | p :: t, i + 1, h => by
    have := cellsL_get t i (by simpa using h)
    have e : cellsL (p :: t) = Value.int .i64 p.1 :: Value.bool p.2 :: cellsL t := by simp [cellsL]
    rw [e]
    have e1 : (i + 1) * 2 = i * 2 + 1 + 1 := by omega
    rw [e1]
    simpa using this

set_option maxRecDepth 100000 in
theorem lks_of_owns {w : World} {base : Nat} {v : Value} {n : Nat} {l : List (Int × Bool)} (h : w.ownsRow base 134 2 v n (cellsL l)) (hn : l.length = n) : ∃ a cap, v = .slice a l.length cap ∧ IsLks w a l := by
  rcases h.2 with ⟨rfl, h0⟩ | ⟨g, cap, cur, rfl, hb, hg, hnc, hcm, hcs, htake⟩
  · refine ⟨none, 0, by rw [hn, h0], fun i hi => ?_⟩
    omega
  · refine ⟨some ⟨g, 0, none⟩, cap, by rw [hn], fun i hi => ⟨g, 0, rfl, (Array.getElem?_eq_some_iff.1 hg).1, ?_, ?_⟩⟩
    · rw [Nat.zero_add, h.cellAt (i * 2) (by omega)]
      exact (cellsL_get l i hi).1
    · rw [Nat.zero_add, h.cellAt (i * 2 + 1) (by omega)]
      exact (cellsL_get l i hi).2

set_option maxRecDepth 100000 in
theorem news_lk (w : World) (x : Int) (y : Bool) (s : Nat) (hs : s = w.heap.size) : ∀ j u, [Value.int .i64 x, Value.bool y][j]? = some u → (w.alloc (.cells #[.int .i64 x, .bool y] 134)).cell? ((⟨s, 0, none⟩ : Addr).add j) = some u := by
  subst hs
  intro j u hj
  match j, hj with
  | 0, hj => simp at hj; subst hj; simp [Addr.add]
  | 1, hj => simp at hj; subst hj; simp [Addr.add]
set_option maxRecDepth 100000 in
theorem one_lk (x : Int) (y : Bool) : ∀ u ∈ [Value.int .i64 x, Value.bool y], u.oneCell' = true := by
  intro u hu
  simp at hu
  rcases hu with rfl | rfl <;> rfl

set_option maxRecDepth 100000 in
theorem Tryz.info134 : (Tryz.prog.info? 134).map (fun i => (i.zero, i.size, i.bytes)) = some (some (.agg #[.int .i64 0, .bool false]), 2, 16) := by kernel_rfl

variable (ra ga sa : Option Addr) (rc gc sc : Nat) (rs : List Int) (gs : List Gd) (ss : List St)

set_option maxRecDepth 100000 in
set_option maxHeartbeats 2000000 in
theorem locks_bad (w : World) (ht : IsTx w ra ga sa rs gs ss) (hc : ¬ chkTx rs gs ss = 0) :
    Calls Tryz.prog 97 #[.agg #[.slice ra rs.length rc, .slice ga gs.length gc, .slice sa ss.length sc]] w fun e w' => e = .returned (.tuple #[.slice none 0 0, .int .i64 (chkTx rs gs ss)]) ∧ Below w.heap.size w w' := by
  have hb : (chkTx rs gs ss != 0) = true := by simpa using hc
  clear hc
  go_enter Tryz.func97, Tryz.ntmps97
  go_wp2_with fail
  refine (txnCheck_any ra ga sa rc gc sc rs gs ss _ (ht.below (grow_alloc (Below.refl _ _) _))).mono ?_
  rintro e w1 ⟨rfl, hb1⟩
  have HB : Hid (Below w.heap.size w w1) := grow_trans (grow_alloc (Below.refl _ _) _) hb1
  clear hb1 ht
  go_wp2
  go_ret2
  exact ⟨rfl, HB.out⟩

set_option maxRecDepth 100000 in
set_option maxHeartbeats 2000000 in
theorem locks_ok (w : World) (ht : IsTx w ra ga sa rs gs ss) (hc : chkTx rs gs ss = 0) (h3 : ss.length ≤ 3) :
    Calls Tryz.prog 97 #[.agg #[.slice ra rs.length rc, .slice ga gs.length gc, .slice sa ss.length sc]] w fun e w' => ∃ a cap, e = .returned (.tuple #[.slice a (lkTo rs (keysOf ss) 8).length cap, .int .i64 0]) ∧ IsLks w' a (lkTo rs (keysOf ss) 8) ∧ Below w.heap.size w w' := by
  obtain ⟨i0, hi, hz0, hz1, hz2⟩ := info_parts Tryz.info134
  have HT : Hid (IsTx w ra ga sa rs gs ss) := ht
  have HC : Hid (chkTx rs gs ss = 0) := hc
  have hkl : Hid ((keysOf ss).length ≤ maxLen) := by rw [keys_len]; exact ht.ls
  clear ht hc
  go_enter Tryz.func97, Tryz.ntmps97
  go_wp2_with fail
  refine (txnCheck_any ra ga sa rc gc sc rs gs ss _ (HT.out.below (grow_alloc (Below.refl _ _) _))).mono ?_
  rintro e w1 ⟨rfl, hb1⟩
  rw [HC.out]
  have x0 : w1.cell? ⟨w.heap.size, 0, none⟩ = some (.slice ra rs.length rc) := (hb1.cell (by simp)).trans (by simp)
  have x1 : w1.cell? ⟨w.heap.size, 1, none⟩ = some (.slice ga gs.length gc) := (hb1.cell (by simp)).trans (by simp)
  have x2 : w1.cell? ⟨w.heap.size, 2, none⟩ = some (.slice sa ss.length sc) := (hb1.cell (by simp)).trans (by simp)
  have B1 : Below w.heap.size w w1 := grow_trans (grow_alloc (Below.refl _ _) _) hb1
  clear hb1 HC
  go_wp2_with fail
  refine (setKeys_any ra ga sa rc gc sc rs gs ss _ (HT.out.below B1) h3).mono ?_
  rintro e W ⟨ka, kc, rfl, hka, hbW⟩
  have y0 := ext_cell hbW x0
  have hW : Hid (Below w.heap.size w W) := grow_trans B1 hbW
  have hra : Hid (IsInts W ra rs) := HT.out.r.below hW.out
  have hlr : Hid (rs.length ≤ maxLen) := HT.out.lr
  have HKA : Hid (IsInts W ka (keysOf ss)) := hka
  have hq : w.heap.size < W.heap.size := World.block_lt_of_cell? W _ y0
  clear x0 x1 x2 B1 hbW HT hka
  generalize hB : W.heap.size = B at *
  go_wp2_with fail
  go_loopw [5, 7, 8, 16] (fun v _ _ i wr => ∃ k : Nat, k ≤ 8 ∧ i = .int .i64 k ∧ wr.ownsRow B 134 2 v (lkTo rs (keysOf ss) k).length (cellsL (lkTo rs (keysOf ss) k)) ∧ Below B W wr) (fun _ _ _ i _ => 8 - (intOf i).toNat)
  case atStart => exact ⟨0, Nat.zero_le _, rfl, World.ownsRow_nil _ _ _ _, Below.refl _ _⟩
  case round =>
    obtain ⟨k, hk, rfl, hown, hnx⟩ := hrel
    have hsz : B ≤ wr.heap.size := by have := hnx.size; omega
    have q0 : wr.cell? ⟨w.heap.size, 0, none⟩ = some (.slice ra rs.length rc) := (hnx.cell (p := ⟨w.heap.size, 0, none⟩) hq).trans y0
    have hll := lkTo_len rs (keysOf ss) k
    by_cases hlt : k < 8
    · have hI1 : Hid (IsInts wr ka (keysOf ss)) := HKA.out.below (by rw [hB]; exact hnx)
      have hI2 : Hid (IsInts wr ra rs) := hra.out.below (by rw [hB]; exact hnx)
      by_cases m1 : (k : Int) ∈ keysOf ss
      · have HS : Hid (lkTo rs (keysOf ss) (k + 1) = lkTo rs (keysOf ss) k ++ [((k : Int), true)]) := lkTo_set rs _ k m1
        have HD : Hid (decide ((k : Int) ∈ keysOf ss) = true) := decide_eq_true m1
        clear m1
        go_wp2_with fail
        refine (contains_any k (keysOf ss) ka kc _ hkl.out hI1.out).mono ?_
        rintro e w' ⟨rfl, rfl⟩
        rw [HD.out]
        go_wp2_with (first | (at_builtin; (refine wpList_append_own _ rfl _ _ 131 rfl B 134 i0 (.agg #[.int .i64 0, .bool false]) 2 16 Tryz.underlying131 hi hz0 hz1 hz2 rfl (by decide) _ _ _ rfl (hown.alloc _) _ 1 1 [.int .i64 k, .bool true] rfl rfl (news_lk _ _ _ _ (by simp)) (one_lk _ _) (by unfold maxLen; omega) (by omega) (by simp; omega) ?_); intro v' w1 hown' hgrow _) | go_in)
        have R : w1.ownsRow B 134 2 v' (lkTo rs (keysOf ss) (k + 1)).length (cellsL (lkTo rs (keysOf ss) (k + 1))) := by
          rw [HS.out, cellsL_append, List.length_append]; exact hown'
        have RB := (hnx.alloc hsz _).grown hgrow (by simp; omega) (fun j hj => (hown.lt j hj).1)
        clear hown' hgrow hown hnx
        go_wp2
        go_roundw
        case rel => exact ⟨k + 1, by omega, by go_num, R, RB⟩
        case measure => simp [intOf]; omega
      · have HD : Hid (decide ((k : Int) ∈ keysOf ss) = false) := decide_eq_false m1
        by_cases m2 : (k : Int) ∈ rs
        · have HS : Hid (lkTo rs (keysOf ss) (k + 1) = lkTo rs (keysOf ss) k ++ [((k : Int), false)]) := lkTo_read rs _ k m1 m2
          have HD2 : Hid (decide ((k : Int) ∈ rs) = true) := decide_eq_true m2
          clear m1 m2
          go_wp2_with fail
          refine (contains_any k (keysOf ss) ka kc _ hkl.out hI1.out).mono ?_
          rintro e w' ⟨rfl, rfl⟩
          rw [HD.out]
          go_wp2_with fail
          refine (contains_any k rs ra rc _ hlr.out hI2.out).mono ?_
          rintro e w' ⟨rfl, rfl⟩
          rw [HD2.out]
          go_wp2_with (first | (at_builtin; (refine wpList_append_own _ rfl _ _ 131 rfl B 134 i0 (.agg #[.int .i64 0, .bool false]) 2 16 Tryz.underlying131 hi hz0 hz1 hz2 rfl (by decide) _ _ _ rfl (hown.alloc _) _ 1 1 [.int .i64 k, .bool false] rfl rfl (news_lk _ _ _ _ (by simp)) (one_lk _ _) (by unfold maxLen; omega) (by omega) (by simp; omega) ?_); intro v' w1 hown' hgrow _) | go_in)
          have R : w1.ownsRow B 134 2 v' (lkTo rs (keysOf ss) (k + 1)).length (cellsL (lkTo rs (keysOf ss) (k + 1))) := by
            rw [HS.out, cellsL_append, List.length_append]; exact hown'
          have RB := (hnx.alloc hsz _).grown hgrow (by simp; omega) (fun j hj => (hown.lt j hj).1)
          clear hown' hgrow hown hnx
          go_wp2
          go_roundw
          case rel => exact ⟨k + 1, by omega, by go_num, R, RB⟩
          case measure => simp [intOf]; omega
        · have HS : Hid (lkTo rs (keysOf ss) (k + 1) = lkTo rs (keysOf ss) k) := lkTo_none rs _ k m1 m2
          have HD2 : Hid (decide ((k : Int) ∈ rs) = false) := decide_eq_false m2
          clear m1 m2
          go_wp2_with fail
          refine (contains_any k (keysOf ss) ka kc _ hkl.out hI1.out).mono ?_
          rintro e w' ⟨rfl, rfl⟩
          rw [HD.out]
          go_wp2_with fail
          refine (contains_any k rs ra rc _ hlr.out hI2.out).mono ?_
          rintro e w' ⟨rfl, rfl⟩
          rw [HD2.out]
          go_wp2
          go_roundw
          case rel => exact ⟨k + 1, by omega, by go_num, by rw [HS.out]; exact hown, hnx⟩
          case measure => simp [intOf]; omega
    · have hk8 : k = 8 := by omega
      subst hk8
      obtain ⟨a, cap, hv, hL⟩ := lks_of_owns hown rfl
      have RB : Below w.heap.size w wr := hW.out.trans (hnx.mono (by omega))
      rw [hv]
      clear hown hnx hv
      go_wp2
      go_ret2
      exact ⟨a, cap, rfl, hL, RB⟩

set_option maxRecDepth 100000 in
theorem locks_any (w : World) (ht : IsTx w ra ga sa rs gs ss) :
    Calls Tryz.prog 97 #[.agg #[.slice ra rs.length rc, .slice ga gs.length gc, .slice sa ss.length sc]] w fun e w' => ∃ a cap, e = .returned (.tuple #[.slice a (lksOf rs gs ss).length cap, .int .i64 (chkTx rs gs ss)]) ∧ IsLks w' a (lksOf rs gs ss) ∧ Below w.heap.size w w' := by
  by_cases hc : chkTx rs gs ss = 0
  · have hm : manyE rs.length gs.length ss.length = 0 := by
      by_cases hm : manyE rs.length gs.length ss.length = 0
      · exact hm
      · have := chk_many rs gs ss hm
        omega
    have h3 := (many_small _ _ _ hm).2.2.1
    have hl : lksOf rs gs ss = lkTo rs (keysOf ss) 8 := if_pos hc
    rw [hl, hc]
    exact locks_ok ra ga sa rc gc sc rs gs ss w ht hc h3
  · have hl : lksOf rs gs ss = [] := if_neg hc
    rw [hl]
    exact (locks_bad ra ga sa rc gc sc rs gs ss w ht hc).mono fun _ _ ⟨he, hb⟩ => ⟨none, 0, he, fun i hi => absurd hi (by simp), hb⟩
end Go.Proofs.YtebjkmknhpgemaaGreat
