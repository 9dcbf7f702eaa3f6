/-
  Audit: from whom a key was read.
  Conditions: those that each theorem states.
-/
import Derived.Test.YtcgpkonfneofdaaAudD
import Derived.Test.YtcgpkonfneofdaaTxnJ
import Derived.WalkKit
import Derived.WalkSpells
import Derived.WalkLawsBesides
import Derived.Defers
import Derived.Recover
import Derived.ProofKit
import Derived.Deep.RegionHeld
import Derived.Deep.RegionHeld3
import Derived.Deep.RegionLaw
import Derived.Deep.DeepCutAuto
import Derived.Deep.QuietTactic
import Derived.BigQuiet
import Derived.Maps.AppendAt
import Derived.Maps.OwnSet
import Derived.Maps.OwnOps
import Derived.Lib.SliceRun
import Derived.Deep.AppendLies
namespace Go.Proofs.Ytcgpkonfneofdaa
open Go.RowKit Go.Maps

variable (za : Option Addr) (zc : Nat) (keys : List Int)

set_option maxRecDepth 100000 in
set_option maxHeartbeats 2000000 in
/-- From whom each key was read. -/
theorem readFrom_any (B m : Nat) (D : DataW Unit) (f : Int → Int) (w : World) (hown : w.ownsMap Try.prog 3 (plainElem (H := Unit) Try.prog 3) B m D) (hB : B < w.heap.size) (hlast : LastIs D f) (hz : IsInts w za keys) (h4 : keys.length ≤ 100) (hw : ∀ k, k < keys.length → (Lit.int .i64 (keys.getD k 0)).wf = true) :
    Calls Try.prog 33 #[.map (some B), .slice za keys.length zc] w fun e w' => ∃ a c, e = .returned (.slice a keys.length c) ∧ IsAt w.heap.size w'.heap.size w' a (keys.map f) ∧ Below w.heap.size w w' := by
  obtain ⟨i0, hi, hz0, hz1, hz2⟩ := info_parts Try.info3
  have HZ : Hid (IsInts w za keys) := hz
  have HLAST : Hid (LastIs D f) := hlast
  have HW : Hid (∀ k, k < keys.length → (Lit.int .i64 (keys.getD k 0)).wf = true) := hw
  have HOWN : Hid (w.ownsMap Try.prog 3 (plainElem (H := Unit) Try.prog 3) B m D) := hown
  have HBW : Hid (B < w.heap.size) := hB
  have HML : Hid ((keys.map f).length = keys.length) := by show _ = _; simp
  clear hz hlast hw hown hB
  go_enter Try.func33, Try.ntmps33
  go_wp2
  go_loopw [5, 12] (fun v i wr => ∃ k : Nat, k ≤ keys.length ∧ i = .int .i64 k ∧ Hid (wr.ownsRow w.heap.size 3 1 v k (((keys.map f).take k).map (Value.int .i64))) ∧ Hid (wr.ownsMap Try.prog 3 (plainElem (H := Unit) Try.prog 3) B m D) ∧ Hid (Below w.heap.size w wr)) (fun _ i _ => keys.length - (intOf i).toNat)
  case atStart => exact ⟨0, Nat.zero_le _, rfl, World.ownsRow_nil _ _ _ _, HOWN, Below.refl _ _⟩
  case round =>
    obtain ⟨k, hk, rfl, hrow, hmap, hB⟩ := hrel
    by_cases hlt : k < keys.length
    · obtain ⟨b, off, ea, _, d⟩ := HZ.out k hlt
      have hBW := HBW.out
      subst ea
      have d := ext_cell hB.out d
      have hwf := HW.out k hlt
      have hLs := HLAST.out (keys.getD k 0)
      have HST : Hid ((keys.map f).take (k + 1) = (keys.map f).take k ++ [f (keys.getD k 0)]) := by
        have e : (keys.map f)[k]? = some (f (keys.getD k 0)) := by simp [List.getD, hlt]
        show _ = _
        rw [List.take_add_one, e]
        rfl
      have hkey : keyOf Try.prog 3 (.int .i64 (keys.getD k 0)) = some (.int .i64 (keys.getD k 0)) := Maps.keyOf_int_mk Try.underlying3 hwf
      have i1 : (k : Int) < (keys.length : Int) := by omega
      have hsz := hB.out.size
      generalize keys.getD k 0 = x at *
      by_cases hf : f x = -1
      · have hhas : Maps.has D (.int .i64 x) = false := by rw [hLs.1]; simp [hf]
        have HF : Hid (f x = -1) := hf
        clear hLs hf
        go_wp2_with (first
            | (at_lookup; refine wpList_lookup_own_ok_int _ rfl _ _ 70 rfl 3 3 .i64 law3 Try.underlying70 Try.underlying3 (zero3 _) B m D rfl hmap.out _ _ rfl hkey ?_; intro c hat hwc)
            | (at_builtin; refine wpList_append_own _ rfl _ _ 22 rfl w.heap.size 3 i0 (.int .i64 0) 1 8 Try.underlying22 hi hz0 hz1 hz2 rfl (by decide) _ _ _ rfl (hrow.out.alloc _) _ 1 1 [.int .i64 (-1)] rfl rfl (cell_one_new _ _ _) (ints_oneCell .i64 [(-1)]) (by unfold maxLen; omega) (by omega) (by simp; omega) ?_; intro v' w5 hown' hgrow _)
            | go_in)
        have n1 : Hid (w5.ownsRow w.heap.size 3 1 v' (k + 1) (((keys.map f).take (k + 1)).map (Value.int .i64))) := by
            rw [HF.out] at HST
            show World.ownsRow _ _ _ _ _ _ _
            rw [HST.out, List.map_append]
            exact hown'
        have hrows : Hid (∀ j, u5.ownBlock = some j → w.heap.size ≤ j) := fun j hj => (hrow.out.lt j hj).1
        have n2 : Hid (w5.ownsMap Try.prog 3 (plainElem (H := Unit) Try.prog 3) B m D) := (hmap.out.alloc _).kept hgrow (fun e => by have := hrows.out B e.symm; omega)
        have n3 : Hid (Below w.heap.size w w5) := (grow_alloc hB.out _).grown hgrow (Nat.le_trans hB.out.size (by simp)) (fun j e => hrows.out j e)
        clear hgrow hown' hrow hmap hB hrows
        go_wp2
        go_roundw
        case rel => exact ⟨k + 1, by omega, by go_num, n1, n2, n3⟩
        case measure => simp [intOf]; omega
      · have hhas : Maps.has D (.int .i64 x) = true := by rw [hLs.1]; simp [hf]
        have HAT : Hid (D.atKey (.int .i64 x) (.lit (.int .i64 0)) = .lit (.int .i64 (f x))) := hLs.2 hf
        clear hLs hf
        go_wp2_with (first
            | (at_lookup; refine wpList_lookup_own_ok_int _ rfl _ _ 70 rfl 3 3 .i64 law3 Try.underlying70 Try.underlying3 (zero3 _) B m D rfl hmap.out _ _ rfl hkey ?_; intro c hat hwc)
            | (at_builtin; refine wpList_append_own _ rfl _ _ 22 rfl w.heap.size 3 i0 (.int .i64 0) 1 8 Try.underlying22 hi hz0 hz1 hz2 rfl (by decide) _ _ _ rfl (hrow.out.alloc _) _ 1 1 [.int .i64 c] rfl rfl (cell_one_new _ _ _) (ints_oneCell .i64 [c]) (by unfold maxLen; omega) (by omega) (by simp; omega) ?_; intro v' w5 hown' hgrow _)
            | go_in)
        have n1 : Hid (w5.ownsRow w.heap.size 3 1 v' (k + 1) (((keys.map f).take (k + 1)).map (Value.int .i64))) := by
            have hc : c = f x := by have h := hat.symm.trans HAT.out; injection h with h; injection h
            rw [← hc] at HST
            show World.ownsRow _ _ _ _ _ _ _
            rw [HST.out, List.map_append]
            exact hown'
        have hrows : Hid (∀ j, u5.ownBlock = some j → w.heap.size ≤ j) := fun j hj => (hrow.out.lt j hj).1
        have n2 : Hid (w5.ownsMap Try.prog 3 (plainElem (H := Unit) Try.prog 3) B m D) := (hmap.out.alloc _).kept hgrow (fun e => by have := hrows.out B e.symm; omega)
        have n3 : Hid (Below w.heap.size w w5) := (grow_alloc hB.out _).grown hgrow (Nat.le_trans hB.out.size (by simp)) (fun j e => hrows.out j e)
        clear hgrow hown' hrow hmap hB hrows
        go_wp2
        go_roundw
        case rel => exact ⟨k + 1, by omega, by go_num, n1, n2, n3⟩
        case measure => simp [intOf]; omega
    · have hkk : k = keys.length := by omega
      have i1 : ¬ (k : Int) < (keys.length : Int) := by omega
      have hr := hrow.out
      rw [hkk, List.take_of_length_le (by rw [HML.out]; exact Nat.le_refl _)] at hr
      obtain ⟨a, c, hv, ha⟩ := at_of_owns hr
      rw [HML.out] at hv
      subst hv
      have HA : Hid (IsAt w.heap.size wr.heap.size wr a (keys.map f)) := ha
      clear hkk hr ha hrow hlt
      go_wp2
      go_ret
      exact ⟨a, ⟨c, rfl⟩, HA.out, hB.out⟩
end Go.Proofs.Ytcgpkonfneofdaa
