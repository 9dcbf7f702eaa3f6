/-
  
  Conditions: those that each theorem states.
-/
import Derived.Test.YtcgpkonfneofdaaGreatSTxnI
import Derived.Laws.OwnMore
namespace Go.Proofs.YtcgpkonfneofdaaGreat
open Go.RowKit
variable (ra ga sa : Option Addr) (rc gc sc : Nat) (rs : List Int) (gs : List Gd) (ss : List St)
set_option maxRecDepth 100000 in
set_option maxHeartbeats 2000000 in
theorem locks_okA (w : World) (ht : IsTx w ra ga sa rs gs ss) (hc : chkTx rs gs ss = 0) (h3 : ss.length ≤ 3) :
  Calls Tryz.prog 73 #[.agg #[.slice ra rs.length rc, .slice ga gs.length gc, .slice sa ss.length sc]] w fun e w' => ∃ a cap, e = .returned (.tuple #[.slice a (lkTo rs (keysOf ss) 8).length cap, .int .i64 0]) ∧ (IsLks w' a (lkTo rs (keysOf ss) 8) ∧ ∀ ad, a = some ad → w.heap.size ≤ ad.block) ∧ Below w.heap.size w w' := by
 obtain ⟨i0, hi, hz0, hz1, hz2⟩ := info_parts Tryz.info149
 have HT : Hid (IsTx w ra ga sa rs gs ss) := ht
 have HC : Hid (chkTx rs gs ss = 0) := hc
 have hkl : Hid ((keysOf ss).length ≤ maxLen) := by rw [keys_len]; exact ht.ls
 clear ht hc
 go_enter Tryz.func73, Tryz.ntmps73
 go_wp2_with fail
 refine (txnCheck_any ra ga sa rc gc sc rs gs ss _ (HT.out.below (grow_alloc (Below.refl _ _) _))).mono ?_
 rintro e w1 ⟨rfl, hb1⟩
 rw [HC.out]
 have x0 : w1.cell? ⟨w.heap.size, 0, none⟩ = some (.slice ra rs.length rc) := (hb1.cell (by simp)).trans (by simp)
 have x1 : w1.cell? ⟨w.heap.size, 1, none⟩ = some (.slice ga gs.length gc) := (hb1.cell (by simp)).trans (by simp)
 have x2 : w1.cell? ⟨w.heap.size, 2, none⟩ = some (.slice sa ss.length sc) := (hb1.cell (by simp)).trans (by simp)
 have B1 : Below w.heap.size w w1 := grow_trans (grow_alloc (Below.refl _ _) _) hb1
 clear hb1 HC
 go_wp2_with fail
 refine (setKeys_any ra ga sa rc gc sc rs gs ss _ (HT.out.below B1) h3).mono ?_
 rintro e W ⟨ka, kc, rfl, hka, hbW⟩
 have y0 := ext_cell hbW x0
 have hW : Hid (Below w.heap.size w W) := grow_trans B1 hbW
 have hra : Hid (IsInts W ra rs) := HT.out.r.below hW.out
 have hlr : Hid (rs.length ≤ maxLen) := HT.out.lr
 have HKA : Hid (IsInts W ka (keysOf ss)) := hka
 have hq : w.heap.size < W.heap.size := World.block_lt_of_cell? W _ y0
 clear x0 x1 x2 B1 hbW HT hka
 generalize hB : W.heap.size = B at *
 go_wp2_with fail
 go_loopw [5, 7, 8, 16] (fun v _ _ i wr => ∃ k : Nat, k ≤ 8 ∧ i = .int .i64 k ∧ wr.ownsRow B 149 2 v (lkTo rs (keysOf ss) k).length (cellsL (lkTo rs (keysOf ss) k)) ∧ Below B W wr) (fun _ _ _ i _ => 8 - (intOf i).toNat)
 case atStart => exact ⟨0, Nat.zero_le _, rfl, World.ownsRow_nil _ _ _ _, Below.refl _ _⟩
 case round =>
  obtain ⟨k, hk, rfl, hown, hnx⟩ := hrel
  have hsz : B ≤ wr.heap.size := by have := hnx.size; omega
  have q0 : wr.cell? ⟨w.heap.size, 0, none⟩ = some (.slice ra rs.length rc) := (hnx.cell (p := ⟨w.heap.size, 0, none⟩) hq).trans y0
  have hll := lkTo_len rs (keysOf ss) k
  by_cases hlt : k < 8
  ·have hI1 : Hid (IsInts wr ka (keysOf ss)) := HKA.out.below (by rw [hB]; exact hnx)
   have hI2 : Hid (IsInts wr ra rs) := hra.out.below (by rw [hB]; exact hnx)
   by_cases m1 : (k : Int) ∈ keysOf ss
   ·have HS : Hid (lkTo rs (keysOf ss) (k + 1) = lkTo rs (keysOf ss) k ++ [((k : Int), true)]) := lkTo_set rs _ k m1
    have HD : Hid (decide ((k : Int) ∈ keysOf ss) = true) := decide_eq_true m1
    clear m1
    go_wp2_with fail
    refine (contains_any k (keysOf ss) ka kc _ hkl.out hI1.out).mono ?_
    rintro e w' ⟨rfl, rfl⟩
    rw [HD.out]
    go_wp2_with (first | (at_builtin; (refine wpList_append_own _ rfl _ _ 131 rfl B 149 i0 (.agg #[.int .i64 0, .bool false]) 2 16 Tryz.underlying131 hi hz0 hz1 hz2 rfl (by decide) _ _ _ rfl (hown.alloc _) _ 1 1 [.int .i64 k, .bool true] rfl rfl (news_lk _ _ _ _ (by simp)) (one_lk _ _) (by unfold maxLen; omega) (by omega) (by simp; omega) ?_); intro v' w1 hown' hgrow _) | go_in)
    have R : w1.ownsRow B 149 2 v' (lkTo rs (keysOf ss) (k + 1)).length (cellsL (lkTo rs (keysOf ss) (k + 1))) := by
     rw [HS.out, cellsL_append, List.length_append]; exact hown'
    have RB := (hnx.alloc hsz _).grown hgrow (by simp; omega) (fun j hj => (hown.lt j hj).1)
    clear hown' hgrow hown hnx
    go_wp2
    go_roundw
    case rel => exact ⟨k + 1, by omega, by go_num, R, RB⟩
    case measure => simp [intOf]; omega
   ·have HD : Hid (decide ((k : Int) ∈ keysOf ss) = false) := decide_eq_false m1
    by_cases m2 : (k : Int) ∈ rs
    ·have HS : Hid (lkTo rs (keysOf ss) (k + 1) = lkTo rs (keysOf ss) k ++ [((k : Int), false)]) := lkTo_read rs _ k m1 m2
     have HD2 : Hid (decide ((k : Int) ∈ rs) = true) := decide_eq_true m2
     clear m1 m2
     go_wp2_with fail
     refine (contains_any k (keysOf ss) ka kc _ hkl.out hI1.out).mono ?_
     rintro e w' ⟨rfl, rfl⟩
     rw [HD.out]
     go_wp2_with fail
     refine (contains_any k rs ra rc _ hlr.out hI2.out).mono ?_
     rintro e w' ⟨rfl, rfl⟩
     rw [HD2.out]
     go_wp2_with (first | (at_builtin; (refine wpList_append_own _ rfl _ _ 131 rfl B 149 i0 (.agg #[.int .i64 0, .bool false]) 2 16 Tryz.underlying131 hi hz0 hz1 hz2 rfl (by decide) _ _ _ rfl (hown.alloc _) _ 1 1 [.int .i64 k, .bool false] rfl rfl (news_lk _ _ _ _ (by simp)) (one_lk _ _) (by unfold maxLen; omega) (by omega) (by simp; omega) ?_); intro v' w1 hown' hgrow _) | go_in)
     have R : w1.ownsRow B 149 2 v' (lkTo rs (keysOf ss) (k + 1)).length (cellsL (lkTo rs (keysOf ss) (k + 1))) := by
      rw [HS.out, cellsL_append, List.length_append]; exact hown'
     have RB := (hnx.alloc hsz _).grown hgrow (by simp; omega) (fun j hj => (hown.lt j hj).1)
     clear hown' hgrow hown hnx
     go_wp2
     go_roundw
     case rel => exact ⟨k + 1, by omega, by go_num, R, RB⟩
     case measure => simp [intOf]; omega
    ·have HS : Hid (lkTo rs (keysOf ss) (k + 1) = lkTo rs (keysOf ss) k) := lkTo_none rs _ k m1 m2
     have HD2 : Hid (decide ((k : Int) ∈ rs) = false) := decide_eq_false m2
     clear m1 m2
     go_wp2_with fail
     refine (contains_any k (keysOf ss) ka kc _ hkl.out hI1.out).mono ?_
     rintro e w' ⟨rfl, rfl⟩
     rw [HD.out]
     go_wp2_with fail
     refine (contains_any k rs ra rc _ hlr.out hI2.out).mono ?_
     rintro e w' ⟨rfl, rfl⟩
     rw [HD2.out]
     go_wp2
     go_roundw
     case rel => exact ⟨k + 1, by omega, by go_num, by rw [HS.out]; exact hown, hnx⟩
     case measure => simp [intOf]; omega
  ·have hk8 : k = 8 := by omega
   subst hk8
   obtain ⟨a, cap, hv, hL⟩ := lks_of_owns hown rfl
   have hlow : Hid (∀ ad, a = some ad → w.heap.size ≤ ad.block) := fun ad e => by
    have h := (hown.lt ad.block (by rw [hv, e]; rfl)).1
    omega
   have RB : Below w.heap.size w wr := hW.out.trans (hnx.mono (by omega))
   rw [hv]
   clear hown hnx hv
   go_wp2
   go_ret2
   exact ⟨a, cap, rfl, ⟨hL, hlow.out⟩, RB⟩
end Go.Proofs.YtcgpkonfneofdaaGreat
