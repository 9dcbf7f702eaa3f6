/-
  The checks of stores and of transactions in their order: order.Check, store.Check, and the document's CheckTxns and IsStore.
  Conditions: the lists can be read.
-/
import Derived.Test.YtcgpkonfneofdaaStoreA
import Derived.WalkKit
import Derived.WalkSpells
import Derived.WalkLawsBesides
import Derived.ProofKit
import Derived.Deep.RegionHeld
import Derived.Deep.RegionHeld3
import Derived.BigQuiet
namespace Go.Proofs.Ytcgpkonfneofdaa
open Go.RowKit

set_option maxRecDepth 100000 in
theorem storeCheck_any (s : List Int) (sa : Option Addr) (sc : Nat) (w : World) :
    Calls Try.prog 26 #[.slice sa s.length sc] w fun e w' => e = .returned (.int .i64 (if s.length = 8 then 0 else 1)) ∧ w' = w := by
  by_cases h : s.length = 8
  · rw [if_pos h]
    have h' : ((s.length : Int) != 8) = false := by simp; omega
    generalize s.length = n at *
    clear h
    go_enter Try.func26, Try.ntmps26
    go_wp2
    go_ret
    exact ⟨rfl, rfl⟩
  · rw [if_neg h]
    have h' : ((s.length : Int) != 8) = true := by simp; omega
    generalize s.length = n at *
    clear h
    go_enter Try.func26, Try.ntmps26
    go_wp2
    go_ret
    exact ⟨rfl, rfl⟩

set_option maxRecDepth 100000 in
theorem isStore_any (s : List Int) (sa : Option Addr) (sc : Nat) (w : World) :
    Calls Try.prog 36 #[.slice sa s.length sc] w fun e w' => e = .returned (.bool (decide (s.length = 8))) ∧ w' = w := by
  have h' : ((s.length : Int) == 8) = decide (s.length = 8) := by
    by_cases h : s.length = 8
    · simp [h]
    · simp [h]; omega
  generalize s.length = n at *
  go_enter Try.func36, Try.ntmps36
  go_wp2
  go_ret
  exact ⟨rfl, rfl⟩

variable (la : Option Addr) (lc : Nat) (l : List TxA)

set_option maxRecDepth 100000 in
set_option maxHeartbeats 1000000 in
theorem orderCheck_any (w : World) (hl : IsTxs w la l) :
    Calls Try.prog 46 #[.slice la l.length lc] w fun e w' => e = .returned (.int .i64 (chkL l)) ∧ Below w.heap.size w w' := by
  by_cases h8 : 8 < l.length
  · have H : Hid (chkL l = 2) := if_pos h8
    clear hl
    go_enter Try.func46, Try.ntmps46
    go_wp2
    go_ret
    exact ⟨by rw [H.out]; rfl, Below.refl _ _⟩
  · have H : Hid (chkL l = firstNZ (l.map chkX)) := if_neg h8
    go_enter Try.func46, Try.ntmps46
    go_wp2
    go_loopw [4, 5, 11] (fun _ _ i wr => ∃ k : Nat, k ≤ l.length ∧ i = .int .i64 k ∧ Hid (firstNZ (l.map chkX) = firstNZ ((l.map chkX).drop k)) ∧ Below w.heap.size w wr) (fun _ _ i _ => l.length - (intOf i).toNat)
    case atStart => exact ⟨0, Nat.zero_le _, rfl, rfl, Below.refl _ _⟩
    case round =>
      obtain ⟨k, hk, rfl, hno, hnx⟩ := hrel
      by_cases hlt : k < l.length
      · obtain ⟨b, off, rfl, hb, c0, c1, c2, hx⟩ := hl k hlt
        have d0 := ext_cell hnx c0
        have d1 := ext_cell hnx c1
        have d2 := ext_cell hnx c2
        have HX : Hid (IsX wr (l.getD k x0)) := hx.below hnx
        have hs : Hid (firstNZ (l.map chkX) = if chkX (l.getD k x0) = 0 then firstNZ ((l.map chkX).drop (k + 1)) else chkX (l.getD k x0)) := hno.out.trans (firstNZ_step chkX l x0 k hlt)
        clear c0 c1 c2 hx hl hno
        generalize (l.getD k x0) = x at *
        obtain ⟨ra, ga, sa, rc, gc, sc, rs, gs, ss⟩ := x
        simp only at d0 d1 d2
        by_cases hE : chkTx rs gs ss = 0
        · have HN : Hid (firstNZ (l.map chkX) = firstNZ ((l.map chkX).drop (k + 1))) := hs.out.trans (if_pos hE)
          have HE : Hid (chkTx rs gs ss = 0) := hE
          clear hs hE
          go_wp2_with fail
          refine (txnCheck_any ra ga sa rc gc sc rs gs ss _ (HX.out.t.below (by repeat (first | assumption | exact Below.refl _ _ | refine grow_drew ?_ | refine grow_alloc ?_ _ | refine grow_trans ?_ (by assumption))))).mono ?_
          rintro e W ⟨rfl, hbW⟩
          rw [HE.out]
          have RB : Below w.heap.size w W := grow_trans hnx (grow_trans (grow_alloc (Below.refl _ _) _) hbW)
          clear hbW hnx d0 d1 d2
          go_wp2
          go_roundw
          case rel => exact ⟨k + 1, by omega, by go_num, HN, RB⟩
          case measure => simp [intOf]; omega
        · have HV : Hid (firstNZ (l.map chkX) = chkTx rs gs ss) := hs.out.trans (if_neg hE)
          have hb' : (chkTx rs gs ss != 0) = true := by simpa using hE
          clear hs hE
          go_wp2_with fail
          refine (txnCheck_any ra ga sa rc gc sc rs gs ss _ (HX.out.t.below (by repeat (first | assumption | exact Below.refl _ _ | refine grow_drew ?_ | refine grow_alloc ?_ _ | refine grow_trans ?_ (by assumption))))).mono ?_
          rintro e W ⟨rfl, hbW⟩
          have RB : Below w.heap.size w W := grow_trans hnx (grow_trans (grow_alloc (Below.refl _ _) _) hbW)
          clear hbW hnx d0 d1 d2
          go_wp2
          go_ret
          exact ⟨by rw [H.out, HV.out]; rfl, RB⟩
      · have H' : Hid (firstNZ (l.map chkX) = 0) := by
          have h0 := hno.out
          rw [List.drop_of_length_le (by simp; omega)] at h0
          exact h0
        clear hno hl
        go_wp2
        go_ret
        exact ⟨by rw [H.out, H'.out]; rfl, hnx⟩

set_option maxRecDepth 100000 in
set_option maxHeartbeats 1000000 in
theorem checkTxns_any (w : World) (hl : IsTxs w la l) :
    Calls Try.prog 57 #[.slice la l.length lc] w fun e w' => e = .returned (.int .i64 (chkL l)) ∧ Below w.heap.size w w' := by
  by_cases h8 : 8 < l.length
  · have H : Hid (chkL l = 2) := if_pos h8
    clear hl
    go_enter Try.func57, Try.ntmps57
    go_wp2
    go_ret
    exact ⟨by rw [H.out]; rfl, Below.refl _ _⟩
  · have H : Hid (chkL l = firstNZ (l.map chkX)) := if_neg h8
    go_enter Try.func57, Try.ntmps57
    go_wp2
    go_loopw [3, 4] (fun i _ wr => ∃ k : Nat, k ≤ l.length ∧ i = .int .i64 k ∧ Hid (firstNZ (l.map chkX) = firstNZ ((l.map chkX).drop k)) ∧ Below w.heap.size w wr) (fun i _ _ => l.length - (intOf i).toNat)
    case atStart => exact ⟨0, Nat.zero_le _, rfl, rfl, Below.refl _ _⟩
    case round =>
      obtain ⟨k, hk, rfl, hno, hnx⟩ := hrel
      by_cases hlt : k < l.length
      · obtain ⟨b, off, rfl, hb, c0, c1, c2, hx⟩ := hl k hlt
        have d0 := ext_cell hnx c0
        have d1 := ext_cell hnx c1
        have d2 := ext_cell hnx c2
        have HX : Hid (IsX wr (l.getD k x0)) := hx.below hnx
        have hs : Hid (firstNZ (l.map chkX) = if chkX (l.getD k x0) = 0 then firstNZ ((l.map chkX).drop (k + 1)) else chkX (l.getD k x0)) := hno.out.trans (firstNZ_step chkX l x0 k hlt)
        clear c0 c1 c2 hx hl hno
        generalize (l.getD k x0) = x at *
        obtain ⟨ra, ga, sa, rc, gc, sc, rs, gs, ss⟩ := x
        simp only at d0 d1 d2
        by_cases hE : chkTx rs gs ss = 0
        · have HN : Hid (firstNZ (l.map chkX) = firstNZ ((l.map chkX).drop (k + 1))) := hs.out.trans (if_pos hE)
          have HE : Hid (chkTx rs gs ss = 0) := hE
          clear hs hE
          go_wp2_with fail
          refine (checkTxn_any ra ga sa rc gc sc rs gs ss _ (HX.out.t.below (by repeat (first | assumption | exact Below.refl _ _ | refine grow_drew ?_ | refine grow_alloc ?_ _ | refine grow_trans ?_ (by assumption))))).mono ?_
          rintro e W ⟨rfl, hbW⟩
          rw [HE.out]
          have RB : Below w.heap.size w W := grow_trans hnx hbW
          clear hbW hnx d0 d1 d2
          go_wp2
          go_roundw
          case rel => exact ⟨k + 1, by omega, by go_num, HN, RB⟩
          case measure => simp [intOf]; omega
        · have HV : Hid (firstNZ (l.map chkX) = chkTx rs gs ss) := hs.out.trans (if_neg hE)
          have hb' : (chkTx rs gs ss != 0) = true := by simpa using hE
          clear hs hE
          go_wp2_with fail
          refine (checkTxn_any ra ga sa rc gc sc rs gs ss _ (HX.out.t.below (by repeat (first | assumption | exact Below.refl _ _ | refine grow_drew ?_ | refine grow_alloc ?_ _ | refine grow_trans ?_ (by assumption))))).mono ?_
          rintro e W ⟨rfl, hbW⟩
          have RB : Below w.heap.size w W := grow_trans hnx hbW
          clear hbW hnx d0 d1 d2
          go_wp2
          go_ret
          exact ⟨by rw [H.out, HV.out]; rfl, RB⟩
      · have H' : Hid (firstNZ (l.map chkX) = 0) := by
          have h0 := hno.out
          rw [List.drop_of_length_le (by simp; omega)] at h0
          exact h0
        clear hno hl
        go_wp2
        go_ret
        exact ⟨by rw [H.out, H'.out]; rfl, hnx⟩
end Go.Proofs.Ytcgpkonfneofdaa
