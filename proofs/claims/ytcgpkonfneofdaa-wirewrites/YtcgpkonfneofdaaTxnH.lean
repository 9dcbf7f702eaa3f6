/-
  Values and guards of a transaction that is right: what an operand is, whether all guards hold.
  Conditions: the transaction and what was read can be read; no guard has an error.
-/
import Derived.Test.YtcgpkonfneofdaaTxnE
import Derived.WalkKit
import Derived.WalkSpells
import Derived.WalkLawsBesides
import Derived.Defers
import Derived.Recover
import Derived.ProofKit
import Derived.Deep.RegionHeld
import Derived.Deep.RegionHeld3
import Derived.BigQuiet
namespace Go.Proofs.Ytcgpkonfneofdaa
open Go.RowKit

set_option maxRecDepth 100000 in
theorem gotInt_ok (v e : Int) (he : e = 0) (w : World) : Calls Try.prog 106 #[.int .i64 v, .int .i64 e] w fun e' w' => e' = .returned (.int .i64 v) ∧ w' = w.alloc (.cells #[.int .i64 0] 25) := by
  subst he
  go_enter Try.func106, Try.ntmps106
  go_wp2_with fail
  refine (leave_zero [0] _ 1 _ (by simp) rfl (errs1 _ _ _ rfl)).mono ?_
  rintro e w' ⟨rfl, rfl⟩
  go_wp2
  go_ret
  exact ⟨rfl, rfl⟩

set_option maxRecDepth 100000 in
theorem gotBool_ok (v : Bool) (e : Int) (he : e = 0) (w : World) : Calls Try.prog 104 #[.bool v, .int .i64 e] w fun e' w' => e' = .returned (.bool v) ∧ w' = w.alloc (.cells #[.int .i64 0] 25) := by
  subst he
  go_enter Try.func104, Try.ntmps104
  go_wp2_with fail
  refine (leave_zero [0] _ 1 _ (by simp) rfl (errs1 _ _ _ rfl)).mono ?_
  rintro e w' ⟨rfl, rfl⟩
  go_wp2
  go_ret
  exact ⟨rfl, rfl⟩

set_option maxRecDepth 100000 in
theorem txnValue_ok (k n : Int) (zs : List Int) (za : Option Addr) (zc : Nat) (w : World) (hl : zs.length ≤ maxLen) (hz : IsInts w za zs) (h0 : chkV k n zs.length = 0) :
    Calls Try.prog 105 #[.agg #[.int .i64 k, .int .i64 n], .slice za zs.length zc] w fun e' w' => e' = .returned (.int .i64 (valV k n zs)) ∧ Below w.heap.size w w' := by
  have HZ : Hid (IsInts w za zs) := hz
  have H0 : Hid (chkV k n zs.length = 0) := h0
  clear hz h0
  go_enter Try.func105, Try.ntmps105
  go_wp2_with fail
  refine (value_any k n zs za zc _ hl (HZ.out.below (grow_alloc (Below.refl _ _) _))).mono ?_
  rintro e w' ⟨rfl, rfl⟩
  go_wp2_with fail
  refine (gotInt_ok _ _ H0.out _).mono ?_
  rintro e w' ⟨rfl, rfl⟩
  go_wp2
  go_ret
  refine ⟨rfl, ?_⟩
  repeat (first | assumption | exact Below.refl _ _ | refine grow_drew ?_ | refine grow_alloc ?_ _ | refine grow_trans ?_ (by assumption))

/-- Does a guard hold of what was read? Do all? -/
def gHold (zs : List Int) (g : Gd) : Bool := holdV g.k (valV g.ak g.an zs) (valV g.bk g.bn zs)
def allG (zs : List Int) : List Gd → Bool
  | [] => true
  | g :: t => if gHold zs g then allG zs t else false

set_option maxRecDepth 100000 in
theorem allG_step (zs : List Int) (l : List Gd) (k : Nat) (h : k < l.length) : allG zs (l.drop k) = if gHold zs (l.getD k g0) then allG zs (l.drop (k + 1)) else false := by
  rw [drop_get l k g0 h]; rfl

set_option maxRecDepth 100000 in
theorem gErr_zero {n : Nat} {k ak an bk bn : Int} (h : gErr n ⟨k, ak, an, bk, bn⟩ = 0) : holdE k = 0 ∧ chkV ak an n = 0 ∧ chkV bk bn n = 0 := by
  have := firstNZ_zero _ h
  exact ⟨by simpa using this 0, by simpa using this 1, by simpa using this 2⟩
set_option maxRecDepth 100000 in
theorem sErr_zero {n : Nat} {key k ak an bk bn : Int} (h : sErr n ⟨key, k, ak, an, bk, bn⟩ = 0) : reckE k = 0 ∧ chkV ak an n = 0 ∧ chkV bk bn n = 0 := by
  have := firstNZ_zero _ h
  exact ⟨by simpa using this 0, by simpa using this 1, by simpa using this 2⟩
set_option maxRecDepth 100000 in
theorem map_zero {α : Type} (f : α → Int) (l : List α) (d : α) (h : firstNZ (l.map f) = 0) (k : Nat) (hk : k < l.length) : f (l.getD k d) = 0 := by
  have := firstNZ_zero _ h k
  rw [← this]
  simp [List.getD, hk]

set_option maxRecDepth 100000 in
theorem ext6 {W w' : World} {p1 p2 p3 p4 p5 : Addr} {v1 v2 v3 v4 v5 : Value} (hb : Below W.heap.size W w') (q1 : W.cell? p1 = some v1) (q2 : W.cell? p2 = some v2) (q3 : W.cell? p3 = some v3) (q4 : W.cell? p4 = some v4) (q5 : W.cell? p5 = some v5) :
    Below W.heap.size W w' ∧ w'.cell? p1 = some v1 ∧ w'.cell? p2 = some v2 ∧ w'.cell? p3 = some v3 ∧ w'.cell? p4 = some v4 ∧ w'.cell? p5 = some v5 := ext5 hb q1 q2 q3 q4 q5

variable (ra ga sa : Option Addr) (rc gc sc : Nat) (rs : List Int) (gs : List Gd) (ss : List St) (za : Option Addr) (zc : Nat) (zs : List Int)

set_option maxRecDepth 100000 in
set_option maxHeartbeats 2000000 in
theorem guardsHold_ok (w : World) (ht : IsTx w ra ga sa rs gs ss) (hz : IsInts w za zs) (hzl0 : zs.length ≤ maxLen) (hlen : zs.length = rs.length) (hg0 : firstNZ (gs.map (gErr rs.length)) = 0) :
    Calls Try.prog 82 #[.agg #[.slice ra rs.length rc, .slice ga gs.length gc, .slice sa ss.length sc], .slice za zs.length zc] w fun e w' => e = .returned (.bool (allG zs gs)) ∧ Below w.heap.size w w' := by
  have hzl : Hid (zs.length ≤ maxLen) := hzl0
  have HZ : Hid (IsInts w za zs) := hz
  have HG : Hid (firstNZ (gs.map (gErr rs.length)) = 0) := hg0
  have HL : Hid (zs.length = rs.length) := hlen
  obtain ⟨_, hgs, _, _, hl, _⟩ := ht
  unfold maxLen at hl
  clear hzl0 hz hg0 hlen
  go_enter Try.func82, Try.ntmps82
  go_wp2
  go_loopw [6, 10] (fun _ i wr => ∃ k : Nat, k ≤ gs.length ∧ i = .int .i64 k ∧ Hid (allG zs gs = allG zs (gs.drop k)) ∧ Below (w.heap.size + 1) (w.alloc (.cells #[.slice ra rs.length rc, .slice ga gs.length gc, .slice sa ss.length sc] 38)) wr) (fun _ i _ => gs.length - (intOf i).toNat)
  case atStart => exact ⟨0, Nat.zero_le _, rfl, rfl, Below.refl _ _⟩
  case round =>
    obtain ⟨k', hk, rfl, hno, hnx⟩ := hrel
    have hsz : w.heap.size + 1 ≤ wr.heap.size := by have := hnx.size; simpa using this
    have hnx' : Below w.heap.size w wr := (grow_alloc (Below.refl _ _) _).trans (hnx.mono (by omega))
    by_cases hlt : k' < gs.length
    · obtain ⟨b, off, rfl, hb, c0, c1, c2, c3, c4⟩ := hgs k' hlt
      have up : ∀ j u, w.cell? ⟨b, j, none⟩ = some u → wr.cell? ⟨b, j, none⟩ = some u := fun j u h =>
        (hnx.cell (p := ⟨b, j, none⟩) (Nat.lt_succ_of_lt hb)).trans ((World.cell?_alloc_lt _ _ ⟨b, j, none⟩ hb).trans h)
      have d0 := up _ _ c0
      have d1 := up _ _ c1
      have d2 := up _ _ c2
      have d3 := up _ _ c3
      have d4 := up _ _ c4
      have hs : Hid (allG zs gs = if gHold zs (gs.getD k' g0) then allG zs (gs.drop (k' + 1)) else false) := hno.out.trans (allG_step zs gs k' hlt)
      have hE := map_zero _ gs g0 HG.out k' hlt
      clear c0 c1 c2 c3 c4 up hgs hno
      generalize (gs.getD k' g0) = s at *
      obtain ⟨k, ak, an, bk, bn⟩ := s
      simp only at d0 d1 d2 d3 d4
      obtain ⟨xA, xB, xC⟩ := gErr_zero hE
      rw [← HL.out] at xB xC
      have hA : Hid (holdE k = 0) := xA
      have hB : Hid (chkV ak an zs.length = 0) := xB
      have hC : Hid (chkV bk bn zs.length = 0) := xC
      clear hE xA xB xC
      by_cases hH : gHold zs ⟨k, ak, an, bk, bn⟩ = true
      · have HN : Hid (allG zs gs = allG zs (gs.drop (k' + 1))) := hs.out.trans (if_pos hH)
        have HV : Hid (holdV k (valV ak an zs) (valV bk bn zs) = true) := hH
        clear hs hH
        go_wp2_with fail
        have hWr : Below wr.heap.size wr (wr.alloc (.cells #[.int .i64 k, .int .i64 ak, .int .i64 an, .int .i64 bk, .int .i64 bn] 101)) := grow_alloc (Below.refl _ _) _
        have hW : Hid (Below w.heap.size w (wr.alloc (.cells #[.int .i64 k, .int .i64 ak, .int .i64 an, .int .i64 bk, .int .i64 bn] 101))) := grow_trans hnx' hWr
        have hIW : Hid (IsInts (wr.alloc (.cells #[.int .i64 k, .int .i64 ak, .int .i64 an, .int .i64 bk, .int .i64 bn] 101)) za zs) := HZ.out.below hW.out
        have y0 : (wr.alloc (.cells #[.int .i64 k, .int .i64 ak, .int .i64 an, .int .i64 bk, .int .i64 bn] 101)).cell? ⟨wr.heap.size, 0, none⟩ = some (.int .i64 k) := by simp
        have y1 : (wr.alloc (.cells #[.int .i64 k, .int .i64 ak, .int .i64 an, .int .i64 bk, .int .i64 bn] 101)).cell? ⟨wr.heap.size, 1, none⟩ = some (.int .i64 ak) := by simp
        have y2 : (wr.alloc (.cells #[.int .i64 k, .int .i64 ak, .int .i64 an, .int .i64 bk, .int .i64 bn] 101)).cell? ⟨wr.heap.size, 2, none⟩ = some (.int .i64 an) := by simp
        have y3 : (wr.alloc (.cells #[.int .i64 k, .int .i64 ak, .int .i64 an, .int .i64 bk, .int .i64 bn] 101)).cell? ⟨wr.heap.size, 3, none⟩ = some (.int .i64 bk) := by simp
        have y4 : (wr.alloc (.cells #[.int .i64 k, .int .i64 ak, .int .i64 an, .int .i64 bk, .int .i64 bn] 101)).cell? ⟨wr.heap.size, 4, none⟩ = some (.int .i64 bn) := by simp
        have RB : Hid (Below (w.heap.size + 1) (w.alloc _) (wr.alloc (.cells #[.int .i64 k, .int .i64 ak, .int .i64 an, .int .i64 bk, .int .i64 bn] 101))) := hnx.trans (hWr.mono hsz)
        have HWr : Hid (Below wr.heap.size wr (wr.alloc (.cells #[.int .i64 k, .int .i64 ak, .int .i64 an, .int .i64 bk, .int .i64 bn] 101))) := hWr
        generalize wr.alloc (.cells #[.int .i64 k, .int .i64 ak, .int .i64 an, .int .i64 bk, .int .i64 bn] 101) = W at *
        generalize hG : wr.heap.size = G at *
        clear hWr d0 d1 d2 d3 d4 hnx
        go_region_held3 (fun w' => Below W.heap.size W w' ∧ w'.cell? ⟨G, 0, none⟩ = some (.int .i64 k) ∧ w'.cell? ⟨G, 1, none⟩ = some (.int .i64 ak) ∧ w'.cell? ⟨G, 2, none⟩ = some (.int .i64 an) ∧ w'.cell? ⟨G, 3, none⟩ = some (.int .i64 bk) ∧ w'.cell? ⟨G, 4, none⟩ = some (.int .i64 bn)) ((go_split_ands; refine ext5 ?_ y0 y1 y2 y3 y4; repeat (first | assumption | exact Below.refl _ _ | refine grow_drew ?_ | refine grow_alloc ?_ _ | refine grow_trans ?_ (by assumption))))
          (first
            | (go_at_call_of 105 (Value.agg #[.int .i64 ak, .int .i64 an]); refine (txnValue_ok ak an zs za zc _ hzl.out ?_ hB.out).mono ?_; (refine hIW.out.below ?_; go_split_ands; repeat (first | assumption | exact Below.refl _ _ | refine grow_drew ?_ | refine grow_alloc ?_ _ | refine grow_trans ?_ (by assumption))); rintro e w' ⟨rfl, hbx⟩)
            | (go_at_call_of 105 (Value.agg #[.int .i64 bk, .int .i64 bn]); refine (txnValue_ok bk bn zs za zc _ hzl.out ?_ hC.out).mono ?_; (refine hIW.out.below ?_; go_split_ands; repeat (first | assumption | exact Below.refl _ _ | refine grow_drew ?_ | refine grow_alloc ?_ _ | refine grow_trans ?_ (by assumption))); rintro e w' ⟨rfl, hbx⟩)
            | (go_at_call 101; refine (holds_any k (valV ak an zs) (valV bk bn zs) _).mono ?_; rintro e w' ⟨rfl, hbx⟩)
            | (go_at_call 104; refine (gotBool_ok _ _ hA.out _).mono ?_; rintro e w' ⟨rfl, rfl⟩))
        rw [HV.out]
        go_wp2
        go_roundw
        case rel =>
          refine ⟨k' + 1, by omega, by go_num, HN, RB.out.trans (Below.mono (B := W.heap.size) ?_ (Nat.le_trans hsz (by rw [← hG]; exact HWr.out.size)))⟩
          go_split_ands
          repeat (first | assumption | exact Below.refl _ _ | refine grow_drew ?_ | refine grow_alloc ?_ _ | refine grow_trans ?_ (by assumption))
        case measure => simp [intOf]; omega
      · have HN : Hid (allG zs gs = false) := hs.out.trans (if_neg hH)
        have hV : holdV k (valV ak an zs) (valV bk bn zs) = false := by simpa [gHold] using hH
        have HV : Hid (holdV k (valV ak an zs) (valV bk bn zs) = false) := hV
        clear hs hH hV
        go_wp2_with fail
        have hWr : Below wr.heap.size wr (wr.alloc (.cells #[.int .i64 k, .int .i64 ak, .int .i64 an, .int .i64 bk, .int .i64 bn] 101)) := grow_alloc (Below.refl _ _) _
        have hW : Hid (Below w.heap.size w (wr.alloc (.cells #[.int .i64 k, .int .i64 ak, .int .i64 an, .int .i64 bk, .int .i64 bn] 101))) := grow_trans hnx' hWr
        have hIW : Hid (IsInts (wr.alloc (.cells #[.int .i64 k, .int .i64 ak, .int .i64 an, .int .i64 bk, .int .i64 bn] 101)) za zs) := HZ.out.below hW.out
        have y0 : (wr.alloc (.cells #[.int .i64 k, .int .i64 ak, .int .i64 an, .int .i64 bk, .int .i64 bn] 101)).cell? ⟨wr.heap.size, 0, none⟩ = some (.int .i64 k) := by simp
        have y1 : (wr.alloc (.cells #[.int .i64 k, .int .i64 ak, .int .i64 an, .int .i64 bk, .int .i64 bn] 101)).cell? ⟨wr.heap.size, 1, none⟩ = some (.int .i64 ak) := by simp
        have y2 : (wr.alloc (.cells #[.int .i64 k, .int .i64 ak, .int .i64 an, .int .i64 bk, .int .i64 bn] 101)).cell? ⟨wr.heap.size, 2, none⟩ = some (.int .i64 an) := by simp
        have y3 : (wr.alloc (.cells #[.int .i64 k, .int .i64 ak, .int .i64 an, .int .i64 bk, .int .i64 bn] 101)).cell? ⟨wr.heap.size, 3, none⟩ = some (.int .i64 bk) := by simp
        have y4 : (wr.alloc (.cells #[.int .i64 k, .int .i64 ak, .int .i64 an, .int .i64 bk, .int .i64 bn] 101)).cell? ⟨wr.heap.size, 4, none⟩ = some (.int .i64 bn) := by simp
        have RB : Hid (Below (w.heap.size + 1) (w.alloc _) (wr.alloc (.cells #[.int .i64 k, .int .i64 ak, .int .i64 an, .int .i64 bk, .int .i64 bn] 101))) := hnx.trans (hWr.mono hsz)
        have HWr : Hid (Below wr.heap.size wr (wr.alloc (.cells #[.int .i64 k, .int .i64 ak, .int .i64 an, .int .i64 bk, .int .i64 bn] 101))) := hWr
        generalize wr.alloc (.cells #[.int .i64 k, .int .i64 ak, .int .i64 an, .int .i64 bk, .int .i64 bn] 101) = W at *
        generalize hG : wr.heap.size = G at *
        clear hWr d0 d1 d2 d3 d4 hnx
        go_region_held3 (fun w' => Below W.heap.size W w' ∧ w'.cell? ⟨G, 0, none⟩ = some (.int .i64 k) ∧ w'.cell? ⟨G, 1, none⟩ = some (.int .i64 ak) ∧ w'.cell? ⟨G, 2, none⟩ = some (.int .i64 an) ∧ w'.cell? ⟨G, 3, none⟩ = some (.int .i64 bk) ∧ w'.cell? ⟨G, 4, none⟩ = some (.int .i64 bn)) ((go_split_ands; refine ext5 ?_ y0 y1 y2 y3 y4; repeat (first | assumption | exact Below.refl _ _ | refine grow_drew ?_ | refine grow_alloc ?_ _ | refine grow_trans ?_ (by assumption))))
          (first
            | (go_at_call_of 105 (Value.agg #[.int .i64 ak, .int .i64 an]); refine (txnValue_ok ak an zs za zc _ hzl.out ?_ hB.out).mono ?_; (refine hIW.out.below ?_; go_split_ands; repeat (first | assumption | exact Below.refl _ _ | refine grow_drew ?_ | refine grow_alloc ?_ _ | refine grow_trans ?_ (by assumption))); rintro e w' ⟨rfl, hbx⟩)
            | (go_at_call_of 105 (Value.agg #[.int .i64 bk, .int .i64 bn]); refine (txnValue_ok bk bn zs za zc _ hzl.out ?_ hC.out).mono ?_; (refine hIW.out.below ?_; go_split_ands; repeat (first | assumption | exact Below.refl _ _ | refine grow_drew ?_ | refine grow_alloc ?_ _ | refine grow_trans ?_ (by assumption))); rintro e w' ⟨rfl, hbx⟩)
            | (go_at_call 101; refine (holds_any k (valV ak an zs) (valV bk bn zs) _).mono ?_; rintro e w' ⟨rfl, hbx⟩)
            | (go_at_call 104; refine (gotBool_ok _ _ hA.out _).mono ?_; rintro e w' ⟨rfl, rfl⟩))
        rw [HV.out]
        go_wp2
        go_ret
        refine ⟨by rw [HN.out]; rfl, grow_trans hW.out ?_⟩
        go_split_ands
        repeat (first | assumption | exact Below.refl _ _ | refine grow_drew ?_ | refine grow_alloc ?_ _ | refine grow_trans ?_ (by assumption))
    · have H' : Hid (allG zs gs = true) := by
        have h0 := hno.out
        rw [List.drop_of_length_le (by omega)] at h0
        exact h0
      clear hno hgs hnx
      go_wp2
      go_ret
      exact ⟨by rw [H'.out]; rfl, hnx'⟩
end Go.Proofs.Ytcgpkonfneofdaa
