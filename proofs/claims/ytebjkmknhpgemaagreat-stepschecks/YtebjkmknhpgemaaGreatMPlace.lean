/-
  The document's own PartOf and ActiveOf; two lists of truths that are the same.
  Conditions: the plan is right, and the transaction is there.
-/
import Derived.Test.YtebjkmknhpgemaaGreatPlaceD
import Derived.OwnWalk
import Derived.Laws.OwnMore
import Derived.WalkKit
import Derived.WalkSpells
import Derived.WalkLawsBesides
import Derived.ProofKit
import Derived.Deep.RegionHeld3
import Derived.BigQuiet
import Derived.Test.YtebjkmknhpgemaaGreatStoreG
import Derived.Defers
import Derived.Recover
import Derived.Deep.RegionHeld
import Derived.Deep.DeepCutAuto
import Derived.Laws.AppendOwnNone
namespace Go.Proofs.YtebjkmknhpgemaaGreat
open Go.RowKit

theorem keysIn_on (rs ks : List Int) (j : Nat) (h : (j : Int) ∈ ks ∨ (j : Int) ∈ rs) : keysIn (lkTo rs ks (j + 1)) = keysIn (lkTo rs ks j) ++ [(j : Int)] := by
  rw [lkTo, if_pos h]
  simp [keysIn]
theorem keysIn_off (rs ks : List Int) (j : Nat) (h : ¬ ((j : Int) ∈ ks ∨ (j : Int) ∈ rs)) : keysIn (lkTo rs ks (j + 1)) = keysIn (lkTo rs ks j) := by
  rw [lkTo, if_neg h]
  simp [keysIn]
theorem setsIn_on (rs ks : List Int) (j : Nat) (h : (j : Int) ∈ ks) : setsIn (lkTo rs ks (j + 1)) = setsIn (lkTo rs ks j) ++ [(j : Int)] := by
  rw [lkTo, if_pos (.inl h)]
  unfold setsIn
  rw [List.filter_append, List.map_append]
  simp [h]
theorem setsIn_off (rs ks : List Int) (j : Nat) (h : ¬ (j : Int) ∈ ks) : setsIn (lkTo rs ks (j + 1)) = setsIn (lkTo rs ks j) := by
  rw [lkTo]
  unfold setsIn
  rw [List.filter_append, List.map_append]
  by_cases c : (j : Int) ∈ ks ∨ (j : Int) ∈ rs
  · rw [if_pos c]; simp [h]
  · rw [if_neg c]; simp
theorem marks_on (sh j : Nat) (ks : List Int) : marks sh (ks ++ [(j : Int)]) = (marks sh ks).set (j % sh) true := by rw [marks_snoc]; simp

set_option maxRecDepth 100000 in
set_option maxHeartbeats 1000000 in
theorem sameBools_eq (bs : List Bool) (a a' : Option Addr) (c c' : Nat) (w : World) (hl : bs.length ≤ 100) (h1 : IsBools w a bs) (h2 : IsBools w a' bs) :
    Calls Tryz.prog 58 #[.slice a bs.length c, .slice a' bs.length c'] w fun e w' => e = .returned (.bool true) ∧ Below w.heap.size w w' := by
  go_enter Tryz.func58, Tryz.ntmps58
  go_wp2
  go_loopw [5] (fun i wr => ∃ k : Nat, k ≤ bs.length ∧ i = .int .i64 k ∧ Below w.heap.size w wr) (fun i _ => bs.length - (intOf i).toNat)
  case atStart => exact ⟨0, Nat.zero_le _, rfl, Below.refl _ _⟩
  case round =>
    obtain ⟨k, hk, rfl, hnx⟩ := hrel
    by_cases hlt : k < bs.length
    · obtain ⟨b, off, rfl, hb, hc⟩ := h1 k hlt
      obtain ⟨b', off', rfl, hb', hc'⟩ := h2 k hlt
      have d1 := ext_cell hnx hc
      have d2 := ext_cell hnx hc'
      have HX : Hid (Below w.heap.size w wr) := hnx
      generalize bs.getD k false = x at *
      clear h1 h2 hnx hc hc'
      have i1 : (0 : Int) ≤ (k : Int) := by omega
      have i2 : (k : Int) < (bs.length : Int) := by omega
      go_wp2_with fail
      go_quiet (fail)
      go_wp2
      go_roundw
      case rel => exact ⟨k + 1, by omega, by go_num, below_drewN HX.out _⟩
      case measure => simp [intOf]; omega
    · clear h1 h2
      go_wp2
      go_ret
      exact ⟨rfl, hnx⟩

variable (la : Option Addr) (lc : Nat) (l : List TxA)

set_option maxRecDepth 100000 in
set_option maxHeartbeats 4000000 in
theorem partOf_any (sh k : Nat) (w : World) (hl : IsTxs w la l) (he : pnE sh l k = 0) :
    Calls Tryz.prog 53 #[.agg #[.int .i64 sh, .slice la l.length lc], .int .i64 k] w fun e w' => ∃ a c, e = .returned (.slice a (marks sh (keysIn (locksAt l k))).length c) ∧ IsBools w' a (marks sh (keysIn (locksAt l k))) ∧ Below w.heap.size w w' := by
  obtain ⟨i0, hi, hz0, hz1, hz2⟩ := info_parts Tryz.info4
  have hsh := planE_zero (pnE_zero he).1
  have hkl : k < l.length := by have := noneE_zero (pnE_zero he).2; omega
  have hl8 := chkL_small hsh.2.2
  have s0 : 0 < sh := by omega
  have s4 : sh ≤ 4 := by omega
  have HM : Hid ((madeCells (Value.bool false).cells (sh * 1)).toList = (List.replicate sh false).map Value.bool) := made_bools sh s4
  rw [marks_len]
  obtain ⟨b, off, rfl, hb, c0, c1, c2, hx⟩ := hl k hkl
  have HX : Hid (IsX w (l.getD k x0)) := hx
  have HLK : Hid (locksAt l k = lkTo (l.getD k x0).rs (keysOf (l.getD k x0).ss) 8) := rfl
  clear hx hl he hsh
  generalize locksAt l k = L at *
  generalize l.getD k x0 = x at *
  obtain ⟨ra, ga, sa, rc, gc, sc, rs, gs, ss⟩ := x
  simp only at c0 c1 c2 HLK
  have q0 : (w.alloc (.cells #[.int .i64 sh, .slice (some ⟨b, off, none⟩) l.length lc] 24)).cell? ⟨w.heap.size, 0, none⟩ = some (.int .i64 sh) := by simp
  have q1 : (w.alloc (.cells #[.int .i64 sh, .slice (some ⟨b, off, none⟩) l.length lc] 24)).cell? ⟨w.heap.size, 1, none⟩ = some (.slice (some ⟨b, off, none⟩) l.length lc) := by simp
  have hU : Below w.heap.size w (w.alloc (.cells #[.int .i64 sh, .slice (some ⟨b, off, none⟩) l.length lc] 24)) := grow_alloc (Below.refl _ _) _
  have hsz : w.heap.size + 1 = (w.alloc (.cells #[.int .i64 sh, .slice (some ⟨b, off, none⟩) l.length lc] 24)).heap.size := by simp
  go_enter Tryz.func53, Tryz.ntmps53
  go_wp2_with (first | (at_make; refine wpList_make_full _ rfl _ _ 65 rfl (w.heap.size + 1) 4 i0 (.bool false) 1 Tryz.underlying65 hi hz0 hz1 .i64 .i64 _ _ sh rfl rfl rfl rfl (by rw [hz2]; omega) (by unfold maxLen; omega) (by simp) ?_; intro w1 hown hgrow) | go_in)
  generalize w.alloc (.cells #[.int .i64 sh, .slice (some ⟨b, off, none⟩) l.length lc] 24) = W at *
  rw [HM.out] at hown
  have UW := Below.grown (Below.refl (w.heap.size + 1) W) hgrow (by omega) (fun j hj => by cases hj)
  have r0 : w1.cell? ⟨w.heap.size, 0, none⟩ = some (.int .i64 sh) := (UW.cell (p := ⟨w.heap.size, 0, none⟩) (by simp)).trans q0
  have r1 : w1.cell? ⟨w.heap.size, 1, none⟩ = some (.slice (some ⟨b, off, none⟩) l.length lc) := (UW.cell (p := ⟨w.heap.size, 1, none⟩) (by simp)).trans q1
  have hW1 : Hid (Below w.heap.size w w1) := hU.trans (UW.mono (by omega))
  have hg1 : W.heap.size < w1.heap.size := by
    have := (hown.lt W.heap.size (by simp [Value.ownBlock])).2
    exact this
  have hm0 : Hid (w1.ownsRow (w.heap.size + 1) 4 1 (.slice (some ⟨W.heap.size, 0, none⟩) sh sh) sh ((marks sh (keysIn (lkTo rs (keysOf ss) 0))).map Value.bool)) := hown
  have hgw0 : w.heap.size + 1 ≤ W.heap.size := by omega
  clear q0 q1 hU UW hown hgrow HM
  generalize W.heap.size = g at *
  have hgw : w.heap.size ≠ g := by omega
  go_wp2
  go_loopw [6] (fun i wr => ∃ j : Nat, j ≤ 8 ∧ i = .int .i64 j ∧ Hid (wr.ownsRow (w.heap.size + 1) 4 1 (.slice (some ⟨g, 0, none⟩) sh sh) sh ((marks sh (keysIn (lkTo rs (keysOf ss) j))).map Value.bool)) ∧ w1.grownBy wr (some g)) (fun i _ => 8 - (intOf i).toNat)
  case atStart => exact ⟨0, Nat.zero_le _, rfl, hm0, World.grownBy.refl _ _⟩
  case round =>
    obtain ⟨j, hj, rfl, hown, hgr⟩ := hrel
    clear hm0
    have hB : Hid (Below w.heap.size w wr) := hW1.out.trans ((Below.grown (Below.refl w.heap.size w1) hgr (by omega) (fun j hj => by injection hj with hj; omega)))
    by_cases hlt : j < 8
    · have t0 : wr.cell? ⟨w.heap.size, 0, none⟩ = some (.int .i64 sh) := hgr.cell r0 (by simpa using hgw)
      have t1 : wr.cell? ⟨w.heap.size, 1, none⟩ = some (.slice (some ⟨b, off, none⟩) l.length lc) := hgr.cell r1 (by simpa using hgw)
      have d0 := ext_cell hB.out c0
      have d1 := ext_cell hB.out c1
      have d2 := ext_cell hB.out c2
      have HXR : Hid (IsTx wr ra ga sa rs gs ss) := HX.out.t.below hB.out
      have ku : ∀ o, Below wr.heap.size wr (wr.alloc o) := fun o => grow_alloc (Below.refl _ _) _
      have kv : ∀ o, Below (wr.alloc o).heap.size (wr.alloc o) ((wr.alloc o).alloc o) := fun o => grow_alloc (Below.refl _ _) _
      have hm1 : (0 : Int) ≤ ((j % sh : Nat) : Int) := by omega
      have hm2 : ((j % sh : Nat) : Int) < (sh : Int) := by have := Nat.mod_lt j s0; omega
      by_cases hr : (j : Int) ∈ rs
      ·
        have HT : Hid (marks sh (keysIn (lkTo rs (keysOf ss) (j + 1))) = (marks sh (keysIn (lkTo rs (keysOf ss) j))).set (j % sh) true) := by show _ = _; rw [keysIn_on _ _ _ (.inr hr), marks_on]
        have hMl : (marks sh (keysIn (lkTo rs (keysOf ss) j))).length = sh := marks_len sh _
        have ho1 := owns_below hown.out (ku (.cells #[.slice ra rs.length rc, .slice ga gs.length gc, .slice sa ss.length sc] 79))
        have q3 := bool_cell ho1 (j % sh) (by rw [hMl]; exact Nat.mod_lt j s0)
        have q4 : (wr.alloc (.cells #[.slice ra rs.length rc, .slice ga gs.length gc, .slice sa ss.length sc] 79)).frozen? ⟨g, j % sh, none⟩ = false := ho1.frozenAt (j % sh)
        have R1 : Hid (((wr.alloc (.cells #[.slice ra rs.length rc, .slice ga gs.length gc, .slice sa ss.length sc] 79)).setCell ⟨g, j % sh, none⟩ (.bool true)).ownsRow (w.heap.size + 1) 4 1 (.slice (some ⟨g, 0, none⟩) sh sh) sh ((marks sh (keysIn (lkTo rs (keysOf ss) (j + 1)))).map Value.bool)) := by
          have h := (ho1.stored (j % sh) (.bool true)).1
          rw [HT.out, List.map_set]
          exact h
        have R2 : Hid (w1.grownBy ((wr.alloc (.cells #[.slice ra rs.length rc, .slice ga gs.length gc, .slice sa ss.length sc] 79)).setCell ⟨g, j % sh, none⟩ (.bool true)) (some g)) := (hgr.trans (World.grownBy_alloc wr _ _)).trans (grown_one _ g (j % sh) _)
        generalize (marks sh (keysIn (lkTo rs (keysOf ss) j))).getD (j % sh) false = old at *
        have v0 : (wr.alloc (.cells #[.slice ra rs.length rc, .slice ga gs.length gc, .slice sa ss.length sc] 79)).cell? ⟨w.heap.size, 0, none⟩ = some (.int .i64 sh) := ext_cell (ku (.cells #[.slice ra rs.length rc, .slice ga gs.length gc, .slice sa ss.length sc] 79)) t0
        have v1 : (wr.alloc (.cells #[.slice ra rs.length rc, .slice ga gs.length gc, .slice sa ss.length sc] 79)).cell? ⟨w.heap.size, 1, none⟩ = some (.slice (some ⟨b, off, none⟩) l.length lc) := ext_cell (ku (.cells #[.slice ra rs.length rc, .slice ga gs.length gc, .slice sa ss.length sc] 79)) t1
        have e0 := ext_cell (ku (.cells #[.slice ra rs.length rc, .slice ga gs.length gc, .slice sa ss.length sc] 79)) d0
        have e1 := ext_cell (ku (.cells #[.slice ra rs.length rc, .slice ga gs.length gc, .slice sa ss.length sc] 79)) d1
        have e2 := ext_cell (ku (.cells #[.slice ra rs.length rc, .slice ga gs.length gc, .slice sa ss.length sc] 79)) d2
        have hd : decide ((j : Int) ∈ rs) = true := by simp [hr]
        clear hown hgr hr hMl ho1 ku kv HT
        go_wp2_with fail
        refine (reads_any ra ga sa rc gc sc rs gs ss j _ HXR.out).mono ?_
        rintro e w' ⟨rfl, hw'⟩
        rw [hw', hd]
        clear hw' w' hd t0 t1 d0 d1 d2 HXR hB
        generalize wr.alloc (.cells #[.slice ra rs.length rc, .slice ga gs.length gc, .slice sa ss.length sc] 79) = V at *
        go_wp2
        go_roundw
        case rel => exact ⟨j + 1, by omega, by go_num, R1, R2.out⟩
        case measure => simp [intOf]; omega
      ·
        have hd : decide ((j : Int) ∈ rs) = false := by simp [hr]
        have HX1 : Hid (IsTx (wr.alloc (.cells #[.slice ra rs.length rc, .slice ga gs.length gc, .slice sa ss.length sc] 79)) ra ga sa rs gs ss) := HXR.out.below (ku _)
        by_cases hk : (j : Int) ∈ keysOf ss
        ·
          have HT : Hid (marks sh (keysIn (lkTo rs (keysOf ss) (j + 1))) = (marks sh (keysIn (lkTo rs (keysOf ss) j))).set (j % sh) true) := by show _ = _; rw [keysIn_on _ _ _ (.inl hk), marks_on]
          have hMl : (marks sh (keysIn (lkTo rs (keysOf ss) j))).length = sh := marks_len sh _
          have ho1 := owns_below (owns_below hown.out (ku (.cells #[.slice ra rs.length rc, .slice ga gs.length gc, .slice sa ss.length sc] 79))) (kv (.cells #[.slice ra rs.length rc, .slice ga gs.length gc, .slice sa ss.length sc] 79))
          have q3 := bool_cell ho1 (j % sh) (by rw [hMl]; exact Nat.mod_lt j s0)
          have q4 : ((wr.alloc (.cells #[.slice ra rs.length rc, .slice ga gs.length gc, .slice sa ss.length sc] 79)).alloc (.cells #[.slice ra rs.length rc, .slice ga gs.length gc, .slice sa ss.length sc] 79)).frozen? ⟨g, j % sh, none⟩ = false := ho1.frozenAt (j % sh)
          have R1 : Hid ((((wr.alloc (.cells #[.slice ra rs.length rc, .slice ga gs.length gc, .slice sa ss.length sc] 79)).alloc (.cells #[.slice ra rs.length rc, .slice ga gs.length gc, .slice sa ss.length sc] 79)).setCell ⟨g, j % sh, none⟩ (.bool true)).ownsRow (w.heap.size + 1) 4 1 (.slice (some ⟨g, 0, none⟩) sh sh) sh ((marks sh (keysIn (lkTo rs (keysOf ss) (j + 1)))).map Value.bool)) := by
            have h := (ho1.stored (j % sh) (.bool true)).1
            rw [HT.out, List.map_set]
            exact h
          have R2 : Hid (w1.grownBy (((wr.alloc (.cells #[.slice ra rs.length rc, .slice ga gs.length gc, .slice sa ss.length sc] 79)).alloc (.cells #[.slice ra rs.length rc, .slice ga gs.length gc, .slice sa ss.length sc] 79)).setCell ⟨g, j % sh, none⟩ (.bool true)) (some g)) := (hgr.trans ((World.grownBy_alloc wr _ _).trans (World.grownBy_alloc _ _ _))).trans (grown_one _ g (j % sh) _)
          generalize (marks sh (keysIn (lkTo rs (keysOf ss) j))).getD (j % sh) false = old at *
          have hd2 : decide ((j : Int) ∈ keysOf ss) = true := by simp [hk]
          have v0 : (wr.alloc (.cells #[.slice ra rs.length rc, .slice ga gs.length gc, .slice sa ss.length sc] 79)).cell? ⟨w.heap.size, 0, none⟩ = some (.int .i64 sh) := ext_cell (ku (.cells #[.slice ra rs.length rc, .slice ga gs.length gc, .slice sa ss.length sc] 79)) t0
          have v1 : (wr.alloc (.cells #[.slice ra rs.length rc, .slice ga gs.length gc, .slice sa ss.length sc] 79)).cell? ⟨w.heap.size, 1, none⟩ = some (.slice (some ⟨b, off, none⟩) l.length lc) := ext_cell (ku (.cells #[.slice ra rs.length rc, .slice ga gs.length gc, .slice sa ss.length sc] 79)) t1
          have e0 := ext_cell (ku (.cells #[.slice ra rs.length rc, .slice ga gs.length gc, .slice sa ss.length sc] 79)) d0
          have e1 := ext_cell (ku (.cells #[.slice ra rs.length rc, .slice ga gs.length gc, .slice sa ss.length sc] 79)) d1
          have e2 := ext_cell (ku (.cells #[.slice ra rs.length rc, .slice ga gs.length gc, .slice sa ss.length sc] 79)) d2
          have f0 := ext_cell (kv (.cells #[.slice ra rs.length rc, .slice ga gs.length gc, .slice sa ss.length sc] 79)) v0
          have f1 := ext_cell (kv (.cells #[.slice ra rs.length rc, .slice ga gs.length gc, .slice sa ss.length sc] 79)) v1
          clear hown hgr hr hk hMl ho1 ku kv HT
          go_wp2_with fail
          refine (reads_any ra ga sa rc gc sc rs gs ss j _ HXR.out).mono ?_
          rintro e w' ⟨rfl, hw'⟩
          rw [hw', hd]
          clear hw' w' hd t0 t1 d0 d1 d2 HXR hB
          go_wp2_with fail
          refine (writes_any ra ga sa rc gc sc rs gs ss j _ HX1.out).mono ?_
          rintro e w' ⟨rfl, hw'⟩
          rw [hw', hd2]
          clear hw' w' hd2 v0 v1 e0 e1 e2 HX1
          generalize (wr.alloc (.cells #[.slice ra rs.length rc, .slice ga gs.length gc, .slice sa ss.length sc] 79)).alloc (.cells #[.slice ra rs.length rc, .slice ga gs.length gc, .slice sa ss.length sc] 79) = V at *
          go_wp2
          go_roundw
          case rel => exact ⟨j + 1, by omega, by go_num, R1, R2.out⟩
          case measure => simp [intOf]; omega
        · have HT : Hid (keysIn (lkTo rs (keysOf ss) (j + 1)) = keysIn (lkTo rs (keysOf ss) j)) := keysIn_off _ _ _ (fun h => h.elim hk hr)
          have R1 : Hid (((wr.alloc (.cells #[.slice ra rs.length rc, .slice ga gs.length gc, .slice sa ss.length sc] 79)).alloc (.cells #[.slice ra rs.length rc, .slice ga gs.length gc, .slice sa ss.length sc] 79)).ownsRow (w.heap.size + 1) 4 1 (.slice (some ⟨g, 0, none⟩) sh sh) sh ((marks sh (keysIn (lkTo rs (keysOf ss) (j + 1)))).map Value.bool)) := by
            rw [HT.out]; exact owns_below (owns_below hown.out (ku _)) (kv _)
          have R2 : Hid (w1.grownBy ((wr.alloc (.cells #[.slice ra rs.length rc, .slice ga gs.length gc, .slice sa ss.length sc] 79)).alloc (.cells #[.slice ra rs.length rc, .slice ga gs.length gc, .slice sa ss.length sc] 79)) (some g)) := hgr.trans ((World.grownBy_alloc wr _ _).trans (World.grownBy_alloc _ _ _))
          have hd2 : decide ((j : Int) ∈ keysOf ss) = false := by simp [hk]
          have v0 : (wr.alloc (.cells #[.slice ra rs.length rc, .slice ga gs.length gc, .slice sa ss.length sc] 79)).cell? ⟨w.heap.size, 0, none⟩ = some (.int .i64 sh) := ext_cell (ku (.cells #[.slice ra rs.length rc, .slice ga gs.length gc, .slice sa ss.length sc] 79)) t0
          have v1 : (wr.alloc (.cells #[.slice ra rs.length rc, .slice ga gs.length gc, .slice sa ss.length sc] 79)).cell? ⟨w.heap.size, 1, none⟩ = some (.slice (some ⟨b, off, none⟩) l.length lc) := ext_cell (ku (.cells #[.slice ra rs.length rc, .slice ga gs.length gc, .slice sa ss.length sc] 79)) t1
          have e0 := ext_cell (ku (.cells #[.slice ra rs.length rc, .slice ga gs.length gc, .slice sa ss.length sc] 79)) d0
          have e1 := ext_cell (ku (.cells #[.slice ra rs.length rc, .slice ga gs.length gc, .slice sa ss.length sc] 79)) d1
          have e2 := ext_cell (ku (.cells #[.slice ra rs.length rc, .slice ga gs.length gc, .slice sa ss.length sc] 79)) d2
          clear hown hgr hr hk ku kv HT
          go_wp2_with fail
          refine (reads_any ra ga sa rc gc sc rs gs ss j _ HXR.out).mono ?_
          rintro e w' ⟨rfl, hw'⟩
          rw [hw', hd]
          clear hw' w' hd t0 t1 d0 d1 d2 HXR hB
          go_wp2_with fail
          refine (writes_any ra ga sa rc gc sc rs gs ss j _ HX1.out).mono ?_
          rintro e w' ⟨rfl, hw'⟩
          rw [hw', hd2]
          clear hw' w' hd2 v0 v1 e0 e1 e2 HX1
          generalize (wr.alloc (.cells #[.slice ra rs.length rc, .slice ga gs.length gc, .slice sa ss.length sc] 79)).alloc (.cells #[.slice ra rs.length rc, .slice ga gs.length gc, .slice sa ss.length sc] 79) = V at *
          go_wp2
          go_roundw
          case rel => exact ⟨j + 1, by omega, by go_num, R1, R2.out⟩
          case measure => simp [intOf]; omega
    · have hjj : j = 8 := by omega
      have hfin : Hid (IsBools wr (some ⟨g, 0, none⟩) (marks sh (keysIn L))) := by
        have h := hown.out
        rw [hjj, ← HLK.out] at h
        exact bools_of_owns h
      clear hown hgr
      go_wp2
      go_ret
      exact ⟨some ⟨g, 0, none⟩, sh, rfl, hfin.out, hB.out⟩

set_option maxRecDepth 100000 in
set_option maxHeartbeats 4000000 in
theorem activeOf_any (sh k : Nat) (w : World) (hl : IsTxs w la l) (he : pnE sh l k = 0) :
    Calls Tryz.prog 54 #[.agg #[.int .i64 sh, .slice la l.length lc], .int .i64 k] w fun e w' => ∃ a c, e = .returned (.slice a (marks sh (setsIn (locksAt l k))).length c) ∧ IsBools w' a (marks sh (setsIn (locksAt l k))) ∧ Below w.heap.size w w' := by
  obtain ⟨i0, hi, hz0, hz1, hz2⟩ := info_parts Tryz.info4
  have hsh := planE_zero (pnE_zero he).1
  have hkl : k < l.length := by have := noneE_zero (pnE_zero he).2; omega
  have hl8 := chkL_small hsh.2.2
  have s0 : 0 < sh := by omega
  have s4 : sh ≤ 4 := by omega
  have HM : Hid ((madeCells (Value.bool false).cells (sh * 1)).toList = (List.replicate sh false).map Value.bool) := made_bools sh s4
  rw [marks_len]
  obtain ⟨b, off, rfl, hb, c0, c1, c2, hx⟩ := hl k hkl
  have HX : Hid (IsX w (l.getD k x0)) := hx
  have HLK : Hid (locksAt l k = lkTo (l.getD k x0).rs (keysOf (l.getD k x0).ss) 8) := rfl
  clear hx hl he hsh
  generalize locksAt l k = L at *
  generalize l.getD k x0 = x at *
  obtain ⟨ra, ga, sa, rc, gc, sc, rs, gs, ss⟩ := x
  simp only at c0 c1 c2 HLK
  have q0 : (w.alloc (.cells #[.int .i64 sh, .slice (some ⟨b, off, none⟩) l.length lc] 24)).cell? ⟨w.heap.size, 0, none⟩ = some (.int .i64 sh) := by simp
  have q1 : (w.alloc (.cells #[.int .i64 sh, .slice (some ⟨b, off, none⟩) l.length lc] 24)).cell? ⟨w.heap.size, 1, none⟩ = some (.slice (some ⟨b, off, none⟩) l.length lc) := by simp
  have hU : Below w.heap.size w (w.alloc (.cells #[.int .i64 sh, .slice (some ⟨b, off, none⟩) l.length lc] 24)) := grow_alloc (Below.refl _ _) _
  have hsz : w.heap.size + 1 = (w.alloc (.cells #[.int .i64 sh, .slice (some ⟨b, off, none⟩) l.length lc] 24)).heap.size := by simp
  go_enter Tryz.func54, Tryz.ntmps54
  go_wp2_with (first | (at_make; refine wpList_make_full _ rfl _ _ 65 rfl (w.heap.size + 1) 4 i0 (.bool false) 1 Tryz.underlying65 hi hz0 hz1 .i64 .i64 _ _ sh rfl rfl rfl rfl (by rw [hz2]; omega) (by unfold maxLen; omega) (by simp) ?_; intro w1 hown hgrow) | go_in)
  generalize w.alloc (.cells #[.int .i64 sh, .slice (some ⟨b, off, none⟩) l.length lc] 24) = W at *
  rw [HM.out] at hown
  have UW := Below.grown (Below.refl (w.heap.size + 1) W) hgrow (by omega) (fun j hj => by cases hj)
  have r0 : w1.cell? ⟨w.heap.size, 0, none⟩ = some (.int .i64 sh) := (UW.cell (p := ⟨w.heap.size, 0, none⟩) (by simp)).trans q0
  have r1 : w1.cell? ⟨w.heap.size, 1, none⟩ = some (.slice (some ⟨b, off, none⟩) l.length lc) := (UW.cell (p := ⟨w.heap.size, 1, none⟩) (by simp)).trans q1
  have hW1 : Hid (Below w.heap.size w w1) := hU.trans (UW.mono (by omega))
  have hg1 : W.heap.size < w1.heap.size := by
    have := (hown.lt W.heap.size (by simp [Value.ownBlock])).2
    exact this
  have hm0 : Hid (w1.ownsRow (w.heap.size + 1) 4 1 (.slice (some ⟨W.heap.size, 0, none⟩) sh sh) sh ((marks sh (setsIn (lkTo rs (keysOf ss) 0))).map Value.bool)) := hown
  have hgw0 : w.heap.size + 1 ≤ W.heap.size := by omega
  clear q0 q1 hU UW hown hgrow HM
  generalize W.heap.size = g at *
  have hgw : w.heap.size ≠ g := by omega
  go_wp2
  go_loopw [6] (fun i wr => ∃ j : Nat, j ≤ 8 ∧ i = .int .i64 j ∧ Hid (wr.ownsRow (w.heap.size + 1) 4 1 (.slice (some ⟨g, 0, none⟩) sh sh) sh ((marks sh (setsIn (lkTo rs (keysOf ss) j))).map Value.bool)) ∧ w1.grownBy wr (some g)) (fun i _ => 8 - (intOf i).toNat)
  case atStart => exact ⟨0, Nat.zero_le _, rfl, hm0, World.grownBy.refl _ _⟩
  case round =>
    obtain ⟨j, hj, rfl, hown, hgr⟩ := hrel
    clear hm0
    have hB : Hid (Below w.heap.size w wr) := hW1.out.trans ((Below.grown (Below.refl w.heap.size w1) hgr (by omega) (fun j hj => by injection hj with hj; omega)))
    by_cases hlt : j < 8
    · have t0 : wr.cell? ⟨w.heap.size, 0, none⟩ = some (.int .i64 sh) := hgr.cell r0 (by simpa using hgw)
      have t1 : wr.cell? ⟨w.heap.size, 1, none⟩ = some (.slice (some ⟨b, off, none⟩) l.length lc) := hgr.cell r1 (by simpa using hgw)
      have d0 := ext_cell hB.out c0
      have d1 := ext_cell hB.out c1
      have d2 := ext_cell hB.out c2
      have HXR : Hid (IsTx wr ra ga sa rs gs ss) := HX.out.t.below hB.out
      have ku : ∀ o, Below wr.heap.size wr (wr.alloc o) := fun o => grow_alloc (Below.refl _ _) _
      have kv : ∀ o, Below (wr.alloc o).heap.size (wr.alloc o) ((wr.alloc o).alloc o) := fun o => grow_alloc (Below.refl _ _) _
      have hm1 : (0 : Int) ≤ ((j % sh : Nat) : Int) := by omega
      have hm2 : ((j % sh : Nat) : Int) < (sh : Int) := by have := Nat.mod_lt j s0; omega
      by_cases hk : (j : Int) ∈ keysOf ss
      ·
        have HT : Hid (marks sh (setsIn (lkTo rs (keysOf ss) (j + 1))) = (marks sh (setsIn (lkTo rs (keysOf ss) j))).set (j % sh) true) := by show _ = _; rw [setsIn_on _ _ _ hk, marks_on]
        have hMl : (marks sh (setsIn (lkTo rs (keysOf ss) j))).length = sh := marks_len sh _
        have ho1 := owns_below hown.out (ku (.cells #[.slice ra rs.length rc, .slice ga gs.length gc, .slice sa ss.length sc] 79))
        have q3 := bool_cell ho1 (j % sh) (by rw [hMl]; exact Nat.mod_lt j s0)
        have q4 : (wr.alloc (.cells #[.slice ra rs.length rc, .slice ga gs.length gc, .slice sa ss.length sc] 79)).frozen? ⟨g, j % sh, none⟩ = false := ho1.frozenAt (j % sh)
        have R1 : Hid (((wr.alloc (.cells #[.slice ra rs.length rc, .slice ga gs.length gc, .slice sa ss.length sc] 79)).setCell ⟨g, j % sh, none⟩ (.bool true)).ownsRow (w.heap.size + 1) 4 1 (.slice (some ⟨g, 0, none⟩) sh sh) sh ((marks sh (setsIn (lkTo rs (keysOf ss) (j + 1)))).map Value.bool)) := by
          have h := (ho1.stored (j % sh) (.bool true)).1
          rw [HT.out, List.map_set]
          exact h
        have R2 : Hid (w1.grownBy ((wr.alloc (.cells #[.slice ra rs.length rc, .slice ga gs.length gc, .slice sa ss.length sc] 79)).setCell ⟨g, j % sh, none⟩ (.bool true)) (some g)) := (hgr.trans (World.grownBy_alloc wr _ _)).trans (grown_one _ g (j % sh) _)
        generalize (marks sh (setsIn (lkTo rs (keysOf ss) j))).getD (j % sh) false = old at *
        have v0 : (wr.alloc (.cells #[.slice ra rs.length rc, .slice ga gs.length gc, .slice sa ss.length sc] 79)).cell? ⟨w.heap.size, 0, none⟩ = some (.int .i64 sh) := ext_cell (ku (.cells #[.slice ra rs.length rc, .slice ga gs.length gc, .slice sa ss.length sc] 79)) t0
        have v1 : (wr.alloc (.cells #[.slice ra rs.length rc, .slice ga gs.length gc, .slice sa ss.length sc] 79)).cell? ⟨w.heap.size, 1, none⟩ = some (.slice (some ⟨b, off, none⟩) l.length lc) := ext_cell (ku (.cells #[.slice ra rs.length rc, .slice ga gs.length gc, .slice sa ss.length sc] 79)) t1
        have e0 := ext_cell (ku (.cells #[.slice ra rs.length rc, .slice ga gs.length gc, .slice sa ss.length sc] 79)) d0
        have e1 := ext_cell (ku (.cells #[.slice ra rs.length rc, .slice ga gs.length gc, .slice sa ss.length sc] 79)) d1
        have e2 := ext_cell (ku (.cells #[.slice ra rs.length rc, .slice ga gs.length gc, .slice sa ss.length sc] 79)) d2
        have hd : decide ((j : Int) ∈ keysOf ss) = true := by simp [hk]
        clear hown hgr hk hMl ho1 ku kv HT e0 e1 e2
        go_wp2_with fail
        refine (writes_any ra ga sa rc gc sc rs gs ss j _ HXR.out).mono ?_
        rintro e w' ⟨rfl, hw'⟩
        rw [hw', hd]
        clear hw' w' hd t0 t1 d0 d1 d2 HXR hB
        generalize wr.alloc (.cells #[.slice ra rs.length rc, .slice ga gs.length gc, .slice sa ss.length sc] 79) = V at *
        go_wp2
        go_roundw
        case rel => exact ⟨j + 1, by omega, by go_num, R1, R2.out⟩
        case measure => simp [intOf]; omega
      · have HT : Hid (setsIn (lkTo rs (keysOf ss) (j + 1)) = setsIn (lkTo rs (keysOf ss) j)) := setsIn_off _ _ _ hk
        have R1 : Hid ((wr.alloc (.cells #[.slice ra rs.length rc, .slice ga gs.length gc, .slice sa ss.length sc] 79)).ownsRow (w.heap.size + 1) 4 1 (.slice (some ⟨g, 0, none⟩) sh sh) sh ((marks sh (setsIn (lkTo rs (keysOf ss) (j + 1)))).map Value.bool)) := by
          rw [HT.out]; exact owns_below hown.out (ku _)
        have R2 : Hid (w1.grownBy (wr.alloc (.cells #[.slice ra rs.length rc, .slice ga gs.length gc, .slice sa ss.length sc] 79)) (some g)) := hgr.trans (World.grownBy_alloc wr _ _)
        have hd : decide ((j : Int) ∈ keysOf ss) = false := by simp [hk]
        clear hown hgr hk ku kv HT
        go_wp2_with fail
        refine (writes_any ra ga sa rc gc sc rs gs ss j _ HXR.out).mono ?_
        rintro e w' ⟨rfl, hw'⟩
        rw [hw', hd]
        clear hw' w' hd t0 t1 d0 d1 d2 HXR hB
        generalize wr.alloc (.cells #[.slice ra rs.length rc, .slice ga gs.length gc, .slice sa ss.length sc] 79) = V at *
        go_wp2
        go_roundw
        case rel => exact ⟨j + 1, by omega, by go_num, R1, R2.out⟩
        case measure => simp [intOf]; omega
    · have hjj : j = 8 := by omega
      have hfin : Hid (IsBools wr (some ⟨g, 0, none⟩) (marks sh (setsIn L))) := by
        have h := hown.out
        rw [hjj, ← HLK.out] at h
        exact bools_of_owns h
      clear hown hgr
      go_wp2
      go_ret
      exact ⟨some ⟨g, 0, none⟩, sh, rfl, hfin.out, hB.out⟩
end Go.Proofs.YtebjkmknhpgemaaGreat

namespace Go.Proofs.YtebjkmknhpgemaaGreat
open Go.RowKit

theorem isTxs_one (w : World) (x : TxA) (n : Nat) (hn : n = w.heap.size) (hx : IsX w x) : IsTxs (w.alloc (.cells #[.slice x.ra x.rs.length x.rc, .slice x.ga x.gs.length x.gc, .slice x.sa x.ss.length x.sc] 79)) (some ⟨n, 0, none⟩) [x] := by
  subst hn
  intro i hi
  have hi0 : i = 0 := by simpa using hi
  subst hi0
  exact ⟨w.heap.size, 0, rfl, by simp, by simp, by simp, by simp, hx.below (grow_alloc (Below.refl _ _) _)⟩

/-- What Apply tells. -/
def apE (s : List Int) (x : TxA) : Int := serE s [x]
def apEnd (s : List Int) (x : TxA) : List Int := sEnd s [x]
def apD (s : List Int) (x : TxA) : Bool := if serE s [x] = 0 then aDone s x else false
def apV (s : List Int) (x : TxA) : List Int := if serE s [x] = 0 then aVals s x else []

variable (sa : Option Addr) (sc : Nat) (s : List Int)

end Go.Proofs.YtebjkmknhpgemaaGreat

namespace Go.Proofs.YtebjkmknhpgemaaGreat
open Go.RowKit

set_option maxRecDepth 100000 in
theorem ext4r {W w' : World} {p1 p2 p3 p4 : Addr} {v1 v2 v3 v4 : Value} (hb : Below W.heap.size W w') (q1 : W.cell? p1 = some v1) (q2 : W.cell? p2 = some v2) (q3 : W.cell? p3 = some v3) (q4 : W.cell? p4 = some v4) :
    w'.cell? p1 = some v1 ∧ w'.cell? p2 = some v2 ∧ w'.cell? p3 = some v3 ∧ w'.cell? p4 = some v4 ∧ Hid (Below W.heap.size W w') := ⟨ext_cell hb q1, ext_cell hb q2, ext_cell hb q3, ext_cell hb q4, hb⟩

set_option maxRecDepth 100000 in
set_option maxHeartbeats 2000000 in
theorem sameResults_eq (R : List (Bool × List Int)) (a a' : Option Addr) (c c' : Nat) (w : World) (hR : R.length ≤ 100) (hI : ∀ r ∈ R, r.2.length ≤ 100) (h1 : IsRes w a R) (h2 : IsRes w a' R) :
    Calls Tryz.prog 35 #[.slice a R.length c, .slice a' R.length c'] w fun e w' => e = .returned (.bool true) ∧ Below w.heap.size w w' := by
  go_enter Tryz.func35, Tryz.ntmps35
  go_wp2
  go_loopw [5] (fun i wr => ∃ k : Nat, k ≤ R.length ∧ i = .int .i64 k ∧ Below w.heap.size w wr) (fun i _ => R.length - (intOf i).toNat)
  case atStart => exact ⟨0, Nat.zero_le _, rfl, Below.refl _ _⟩
  case round =>
    obtain ⟨k, hk, rfl, hnx⟩ := hrel
    by_cases hlt : k < R.length
    · obtain ⟨b, off, va, vc, rfl, hb, c0, c1, hz⟩ := h1 k hlt
      obtain ⟨b', off', va', vc', rfl, hb', e0, e1, hz'⟩ := h2 k hlt
      have hm : R.getD k (false, []) ∈ R := by simp [List.getD, hlt]
      have hl := hI _ hm
      have d0 := ext_cell hnx c0
      have d1 := ext_cell hnx c1
      have f0 := ext_cell hnx e0
      have f1 := ext_cell hnx e1
      have HZ : Hid (IsInts wr va (R.getD k (false, [])).2) := hz.below hnx
      have HZ' : Hid (IsInts wr va' (R.getD k (false, [])).2) := hz'.below hnx
      generalize R.getD k (false, []) = r at *
      obtain ⟨D, Z⟩ := r
      simp only at d0 d1 f0 f1 hl
      have hzl : Hid (Z.length ≤ maxLen) := by show _ ≤ _; unfold maxLen; omega
      have hnx' : Hid (Below w.heap.size w wr) := hnx
      clear c0 c1 e0 e1 hz hz' hm h1 h2 hI hnx hl
      have i1 : (0 : Int) ≤ (k : Int) := by omega
      have i2 : (k : Int) < (R.length : Int) := by omega
      have hKS : Hid (∀ w', Below wr.heap.size wr w' → w'.cell? ⟨b, off + k * 2, none⟩ = some (.bool D) ∧ w'.cell? ⟨b, off + k * 2 + 1, none⟩ = some (.slice va Z.length vc) ∧ w'.cell? ⟨b', off' + k * 2, none⟩ = some (.bool D) ∧ w'.cell? ⟨b', off' + k * 2 + 1, none⟩ = some (.slice va' Z.length vc') ∧ Hid (Below wr.heap.size wr w')) := fun w' h => ext4r h d0 d1 f0 f1
      go_wp2
      go_region_held3 (fun w' => w'.cell? ⟨b, off + k * 2, none⟩ = some (.bool D) ∧ w'.cell? ⟨b, off + k * 2 + 1, none⟩ = some (.slice va Z.length vc) ∧ w'.cell? ⟨b', off' + k * 2, none⟩ = some (.bool D) ∧ w'.cell? ⟨b', off' + k * 2 + 1, none⟩ = some (.slice va' Z.length vc') ∧ Hid (Below wr.heap.size wr w')) ((refine hKS.out _ ?_; go_split_ands; repeat (first | assumption | exact Below.refl _ _ | exact Hid.out (by assumption) | refine grow_drew ?_ | refine grow_alloc ?_ _ | refine grow_trans ?_ (by assumption))))
        (first
          | (go_at_call 37; refine (sameInts_any Z Z va va' vc vc' _ hzl.out ?_ ?_).mono ?_; (refine HZ.out.below ?_; go_split_ands; exact Hid.out (by assumption)); (refine HZ'.out.below ?_; go_split_ands; exact Hid.out (by assumption)); rintro e w' ⟨rfl, hbx⟩))
      go_split_ands
      have RB : ∃ wx, wx = w' ∧ Below w.heap.size w wx := ⟨_, rfl, grow_trans hnx'.out (Hid.out (by assumption))⟩
      obtain ⟨wx, rfl, RB⟩ := RB
      clear hKS d0 d1 f0 f1 HZ HZ'
      go_wp2
      go_roundw
      case rel => exact ⟨k + 1, by omega, by go_num, RB⟩
      case measure => simp [intOf]; omega
    · clear h1 h2
      go_wp2
      go_ret
      exact ⟨rfl, hnx⟩

variable (sa : Option Addr) (sc : Nat) (s : List Int) (ra ga ta : Option Addr) (rc gc tc : Nat) (rs : List Int) (gs : List Gd) (ss : List St)

set_option maxRecDepth 100000 in
theorem chkL_one (x : TxA) : chkL [x] = chkX x := by
  unfold chkL
  rw [if_neg (by simp)]
  simp only [List.map_cons, List.map_nil, firstNZ]
  split <;> simp_all

def apF (s : List Int) (x : TxA) : List Int := if serE s [x] = 0 then aEnd s x else []

end Go.Proofs.YtebjkmknhpgemaaGreat

namespace Go.Proofs.YtebjkmknhpgemaaGreat
open Go.RowKit

theorem serE_len {s : List Int} {l : List TxA} (h : ¬ s.length = 8) : serE s l = 1 := by
  have h1 : lenE s = 1 := if_neg h
  unfold serE
  rw [h1]
  rfl
set_option maxRecDepth 100000 in
theorem serE_chk {s : List Int} {l : List TxA} (h : s.length = 8) : serE s l = chkL l := by
  have h1 : lenE s = 0 := if_pos h
  unfold serE
  rw [h1, firstNZ, if_pos rfl, firstNZ, firstNZ]
  split <;> simp_all
set_option maxRecDepth 100000 in
theorem some_of_ints {w : World} {a : Option Addr} {z : Int} {t : List Int} {c : Nat} (h : IsInts w a (z :: t)) : a = none → c = 0 := fun e => by
  obtain ⟨b, off, ha, _⟩ := h 0 (by simp)
  rw [e] at ha
  cases ha
set_option maxRecDepth 100000 in
theorem some_of_gs {w : World} {a : Option Addr} {z : Gd} {t : List Gd} {c : Nat} (h : IsGs w a (z :: t)) : a = none → c = 0 := fun e => by
  obtain ⟨b, off, ha, _⟩ := h 0 (by simp)
  rw [e] at ha
  cases ha
set_option maxRecDepth 100000 in
theorem some_of_ss {w : World} {a : Option Addr} {z : St} {t : List St} {c : Nat} (h : IsSs w a (z :: t)) : a = none → c = 0 := fun e => by
  obtain ⟨b, off, ha, _⟩ := h 0 (by simp)
  rw [e] at ha
  cases ha

set_option maxRecDepth 100000 in
theorem isTxs_three (w : World) (x y z : TxA) (n : Nat) (hn : n = w.heap.size) (hx : IsX w x) (hy : IsX w y) (hz : IsX w z) : IsTxs (w.alloc (.cells #[.slice x.ra x.rs.length x.rc, .slice x.ga x.gs.length x.gc, .slice x.sa x.ss.length x.sc, .slice y.ra y.rs.length y.rc, .slice y.ga y.gs.length y.gc, .slice y.sa y.ss.length y.sc, .slice z.ra z.rs.length z.rc, .slice z.ga z.gs.length z.gc, .slice z.sa z.ss.length z.sc] 79)) (some ⟨n, 0, none⟩) [x, y, z] := by
  subst hn
  intro i hi
  have hi3 : i < 3 := by simpa using hi
  match i, hi3 with
  | 0, _ => exact ⟨w.heap.size, 0, rfl, by simp, by simp, by simp, by simp, hx.below (grow_alloc (Below.refl _ _) _)⟩
  | 1, _ => exact ⟨w.heap.size, 0, rfl, by simp, by simp, by simp, by simp, hy.below (grow_alloc (Below.refl _ _) _)⟩
  | 2, _ => exact ⟨w.heap.size, 0, rfl, by simp, by simp, by simp, by simp, hz.below (grow_alloc (Below.refl _ _) _)⟩

set_option maxRecDepth 100000 in
theorem isInts_eight (w : World) (n : Nat) (a b c d e f g h : Int) (hn : n = w.heap.size) : IsInts (w.alloc (.cells #[.int .i64 a, .int .i64 b, .int .i64 c, .int .i64 d, .int .i64 e, .int .i64 f, .int .i64 g, .int .i64 h] 3)) (some ⟨n, 0, none⟩) [a, b, c, d, e, f, g, h] := by
  subst hn
  intro i hi
  have hi8 : i < 8 := by simpa using hi
  refine ⟨w.heap.size, 0, rfl, by simp, ?_⟩
  match i, hi8 with
  | 0, _ => simp
  | 1, _ => simp
  | 2, _ => simp
  | 3, _ => simp
  | 4, _ => simp
  | 5, _ => simp
  | 6, _ => simp
  | 7, _ => simp

def S0 : List Int := [5, 1, 0, 0, 0, 0, 0, 0]
def S7 : List Int := [5, 1, 0, 0, 0, 0, 0]
abbrev xPay (ra ga sa : Option Addr) (rc gc sc : Nat) : TxA := ⟨ra, ga, sa, rc, gc, sc, [0, 1], [gPay 3], [s1Pay 3, s2Pay 3]⟩
abbrev xNote (ra sa : Option Addr) (rc sc : Nat) : TxA := ⟨ra, none, sa, rc, 0, sc, [1], [], [sNote]⟩
section
variable (ra ga sa ra' ga' sa' ra2 sa2 : Option Addr) (rc gc sc rc' gc' sc' rc2 sc2 : Nat)
set_option maxRecDepth 100000 in
theorem begE1 : serE S0 [xPay ra ga sa rc gc sc] = 0 := by
  rw [serE_chk rfl, chkL_one]
  exact pE
set_option maxRecDepth 100000 in
theorem begF1 : apF S0 (xPay ra ga sa rc gc sc) = [2, 4, 0, 0, 0, 0, 0, 0] := by
  unfold apF
  rw [if_pos (begE1 ra ga sa rc gc sc)]
  show putAll S0 (keysOf [s1Pay 3, s2Pay 3]) (madeOf (rdOf S0 [0, 1]) [gPay 3] [s1Pay 3, s2Pay 3]) = _
  decide +kernel
set_option maxRecDepth 100000 in
theorem begD1 : apD S0 (xPay ra ga sa rc gc sc) = true := by
  unfold apD
  rw [if_pos (begE1 ra ga sa rc gc sc)]
  show allG (rdOf S0 [0, 1]) [gPay 3] = true
  decide +kernel
set_option maxRecDepth 100000 in
theorem begE3 : serE S0 [xPay ra ga sa rc gc sc, xPay ra' ga' sa' rc' gc' sc', xNote ra2 sa2 rc2 sc2] = 0 := by
  rw [serE_chk rfl]
  show firstNZ [chkTx [0, 1] [gPay 3] [s1Pay 3, s2Pay 3], chkTx [0, 1] [gPay 3] [s1Pay 3, s2Pay 3], chkTx [1] [] [sNote]] = 0
  rw [pE, nE]
  rfl
set_option maxRecDepth 100000 in
theorem begS3 : sEnd S0 [xPay ra ga sa rc gc sc, xPay ra' ga' sa' rc' gc' sc', xNote ra2 sa2 rc2 sc2] = [2, 4, 0, 0, 0, 4, 0, 0] := by
  unfold sEnd
  rw [if_pos (begE3 ra ga sa ra' ga' sa' ra2 sa2 rc gc sc rc' gc' sc' rc2 sc2)]
  have h1 : aEnd S0 (xPay ra ga sa rc gc sc) = [2, 4, 0, 0, 0, 0, 0, 0] := by
    show putAll S0 (keysOf [s1Pay 3, s2Pay 3]) (madeOf (rdOf S0 [0, 1]) [gPay 3] [s1Pay 3, s2Pay 3]) = _
    decide +kernel
  have h2 : aEnd [2, 4, 0, 0, 0, 0, 0, 0] (xPay ra' ga' sa' rc' gc' sc') = [2, 4, 0, 0, 0, 0, 0, 0] := by
    show putAll [2, 4, 0, 0, 0, 0, 0, 0] (keysOf [s1Pay 3, s2Pay 3]) (madeOf (rdOf [2, 4, 0, 0, 0, 0, 0, 0] [0, 1]) [gPay 3] [s1Pay 3, s2Pay 3]) = _
    decide +kernel
  have h3 : aEnd [2, 4, 0, 0, 0, 0, 0, 0] (xNote ra2 sa2 rc2 sc2) = [2, 4, 0, 0, 0, 4, 0, 0] := by
    show putAll [2, 4, 0, 0, 0, 0, 0, 0] (keysOf [sNote]) (madeOf (rdOf [2, 4, 0, 0, 0, 0, 0, 0] [1]) [] [sNote]) = _
    decide +kernel
  simp only [serEnd, h1, h2, h3]
set_option maxRecDepth 100000 in
theorem begR3 : sRes S0 [xPay ra ga sa rc gc sc, xPay ra' ga' sa' rc' gc' sc', xNote ra2 sa2 rc2 sc2] = [(true, [5, 1]), (false, [2, 4]), (true, [4])] := by
  unfold sRes
  rw [if_pos (begE3 ra ga sa ra' ga' sa' ra2 sa2 rc gc sc rc' gc' sc' rc2 sc2)]
  have h1 : aEnd S0 (xPay ra ga sa rc gc sc) = [2, 4, 0, 0, 0, 0, 0, 0] := by
    show putAll S0 (keysOf [s1Pay 3, s2Pay 3]) (madeOf (rdOf S0 [0, 1]) [gPay 3] [s1Pay 3, s2Pay 3]) = _
    decide +kernel
  have h2 : aEnd [2, 4, 0, 0, 0, 0, 0, 0] (xPay ra' ga' sa' rc' gc' sc') = [2, 4, 0, 0, 0, 0, 0, 0] := by
    show putAll [2, 4, 0, 0, 0, 0, 0, 0] (keysOf [s1Pay 3, s2Pay 3]) (madeOf (rdOf [2, 4, 0, 0, 0, 0, 0, 0] [0, 1]) [gPay 3] [s1Pay 3, s2Pay 3]) = _
    decide +kernel
  have d1 : aDone S0 (xPay ra ga sa rc gc sc) = true := by
    show allG (rdOf S0 [0, 1]) [gPay 3] = true
    decide +kernel
  have d2 : aDone [2, 4, 0, 0, 0, 0, 0, 0] (xPay ra' ga' sa' rc' gc' sc') = false := by
    show allG (rdOf [2, 4, 0, 0, 0, 0, 0, 0] [0, 1]) [gPay 3] = false
    decide +kernel
  have d3 : aDone [2, 4, 0, 0, 0, 0, 0, 0] (xNote ra2 sa2 rc2 sc2) = true := rfl
  simp only [serRes, h1, h2, d1, d2, d3]
  rfl
end
set_option maxRecDepth 100000 in
theorem beg7 : serE S7 [] = 1 := rfl

theorem isInts_take {w : World} {a : Option Addr} {l : List Int} (h : IsInts w a l) (n : Nat) : IsInts w a (l.take n) := fun i hi => by
  have hl : i < l.length := by rw [List.length_take] at hi; omega
  obtain ⟨b, off, ha, hb, hc⟩ := h i hl
  refine ⟨b, off, ha, hb, ?_⟩
  rw [hc]
  have hn : i < n := by rw [List.length_take] at hi; omega
  simp [List.getD, hn]

end Go.Proofs.YtebjkmknhpgemaaGreat

namespace Go.Proofs.YtebjkmknhpgemaaGreat
open Go.RowKit

def sMark (n : Int) : St := ⟨7, 1, 1, n, 1, 0⟩
abbrev xMark (n : Int) (sa : Option Addr) (sc : Nat) : TxA := ⟨none, none, sa, 0, 0, sc, [], [], [sMark n]⟩

/-- No list of a transaction lies below C. -/
def XAt (C : Nat) (ra ga sa : Option Addr) : Prop := (∀ ad, ra = some ad → C ≤ ad.block) ∧ (∀ ad, ga = some ad → C ≤ ad.block) ∧ (∀ ad, sa = some ad → C ≤ ad.block)
theorem XAt.low {C C' : Nat} {ra ga sa : Option Addr} (h : XAt C ra ga sa) (hc : C' ≤ C) : XAt C' ra ga sa :=
  ⟨fun ad e => Nat.le_trans hc (h.1 ad e), fun ad e => Nat.le_trans hc (h.2.1 ad e), fun ad e => Nat.le_trans hc (h.2.2 ad e)⟩
theorem far_ints {w : World} {a : Option Addr} {zs : List Int} (h : IsInts w a zs) (b j : Nat) (v : Value) (hne : ∀ ad, a = some ad → b < ad.block) : IsInts (w.setCell ⟨b, j, none⟩ v) a zs := fun i hi => by
  obtain ⟨b', off, ha, hlt, hc⟩ := h i hi
  have hn : b < b' := hne _ ha
  exact ⟨b', off, ha, by simpa using hlt, by rw [World.cell?_setCell_far _ _ _ _ (by simp; omega)]; exact hc⟩
theorem far_gs {w : World} {a : Option Addr} {zs : List Gd} (h : IsGs w a zs) (b j : Nat) (v : Value) (hne : ∀ ad, a = some ad → b < ad.block) : IsGs (w.setCell ⟨b, j, none⟩ v) a zs := fun i hi => by
  obtain ⟨b', off, ha, hlt, c0, c1, c2, c3, c4⟩ := h i hi
  have hn : b < b' := hne _ ha
  have far : ∀ k u, w.cell? ⟨b', k, none⟩ = some u → (w.setCell ⟨b, j, none⟩ v).cell? ⟨b', k, none⟩ = some u := fun k u hc => by rw [World.cell?_setCell_far _ _ _ _ (by simp; omega)]; exact hc
  exact ⟨b', off, ha, by simpa using hlt, far _ _ c0, far _ _ c1, far _ _ c2, far _ _ c3, far _ _ c4⟩
theorem far_ss {w : World} {a : Option Addr} {zs : List St} (h : IsSs w a zs) (b j : Nat) (v : Value) (hne : ∀ ad, a = some ad → b < ad.block) : IsSs (w.setCell ⟨b, j, none⟩ v) a zs := fun i hi => by
  obtain ⟨b', off, ha, hlt, c0, c1, c2, c3, c4, c5⟩ := h i hi
  have hn : b < b' := hne _ ha
  have far : ∀ k u, w.cell? ⟨b', k, none⟩ = some u → (w.setCell ⟨b, j, none⟩ v).cell? ⟨b', k, none⟩ = some u := fun k u hc => by rw [World.cell?_setCell_far _ _ _ _ (by simp; omega)]; exact hc
  exact ⟨b', off, ha, by simpa using hlt, far _ _ c0, far _ _ c1, far _ _ c2, far _ _ c3, far _ _ c4, far _ _ c5⟩
theorem far_x {w : World} {x : TxA} (h : IsX w x) (b j : Nat) (v : Value) (hx : XAt (b + 1) x.ra x.ga x.sa) : IsX (w.setCell ⟨b, j, none⟩ v) x :=
  ⟨⟨far_ints h.t.r b j v (fun ad e => hx.1 ad e), far_gs h.t.g b j v (fun ad e => hx.2.1 ad e), far_ss h.t.s b j v (fun ad e => hx.2.2 ad e), h.t.lr, h.t.lg, h.t.ls⟩, h.rn, h.gn, h.sn⟩
theorem far_txs {w : World} {a : Option Addr} {l : List TxA} (h : IsTxs w a l) (b j : Nat) (v : Value) (hne : ∀ ad, a = some ad → b < ad.block) (hx : ∀ x ∈ l, XAt (b + 1) x.ra x.ga x.sa) : IsTxs (w.setCell ⟨b, j, none⟩ v) a l := fun i hi => by
  obtain ⟨b', off, ha, hlt, c0, c1, c2, hX⟩ := h i hi
  have hn : b < b' := hne _ ha
  have far : ∀ k u, w.cell? ⟨b', k, none⟩ = some u → (w.setCell ⟨b, j, none⟩ v).cell? ⟨b', k, none⟩ = some u := fun k u hc => by rw [World.cell?_setCell_far _ _ _ _ (by simp; omega)]; exact hc
  exact ⟨b', off, ha, by simpa using hlt, far _ _ c0, far _ _ c1, far _ _ c2, far_x hX b j v (hx _ (by simp [List.getD, hi]))⟩

set_option maxRecDepth 100000 in
set_option maxHeartbeats 1000000 in
theorem note_at (w : World) : Calls Tryz.prog 103 #[] w fun e w' => ∃ ra sa rc sc, e = .returned (.agg #[.slice ra ([1] : List Int).length rc, .slice none ([] : List Gd).length 0, .slice sa [sNote].length sc]) ∧ IsTx w' ra none sa [1] [] [sNote] ∧ XAt w.heap.size ra none sa ∧ Below w.heap.size w w' := by
  go_enter Tryz.func103, Tryz.ntmps103
  go_wp2_with fail
  refine (lawValue_any 0 _).mono ?_
  rintro e w' ⟨rfl, rfl⟩
  go_wp2_with fail
  refine (lawNumber_any 0 _).mono ?_
  rintro e w' ⟨rfl, rfl⟩
  go_wp2
  refine bodyPost_ret (v := .agg #[.slice (some ⟨w.heap.size + 1, 0, none⟩) 1 1, .slice none 0 0, .slice (some ⟨w.heap.size + 1 + 1 + 1 + 1, 0, none⟩) 1 1]) ?_ rfl ⟨_, _, _, _, rfl, ⟨?_, ?_, ?_, by decide, by decide, by decide⟩, ?_, ?_⟩
  · simp [results, Tryz.results103, go_sem]
  · generalize Obj.cells #[_, _, _] 79 = O0
    exact (isInts_one (w.alloc O0) (w.heap.size + 1) 1 (by simp)).below (by repeat (first | assumption | exact Below.refl _ _ | refine grow_drew ?_ | refine grow_alloc ?_ _ | refine grow_trans ?_ (by assumption)))
  · exact fun i hi => absurd hi (by simp)
  · exact isSs_one _ _ _ _ _ _ _ _ (by simp)
  · exact ⟨fun ad h => by first | (cases h; done) | (injection h with h; subst h; first | (simp; done) | (simp; omega)), fun ad h => by first | (cases h; done) | (injection h with h; subst h; first | (simp; done) | (simp; omega)), fun ad h => by first | (cases h; done) | (injection h with h; subst h; first | (simp; done) | (simp; omega))⟩
  · repeat (first | assumption | exact Below.refl _ _ | refine grow_drew ?_ | refine grow_alloc ?_ _ | refine grow_trans ?_ (by assumption))

set_option maxRecDepth 100000 in
set_option maxHeartbeats 1000000 in
theorem pay_at (n : Int) (w : World) : Calls Tryz.prog 102 #[.int .i64 n] w fun e w' => ∃ ra ga sa rc gc sc, e = .returned (.agg #[.slice ra ([0, 1] : List Int).length rc, .slice ga [gPay n].length gc, .slice sa [s1Pay n, s2Pay n].length sc]) ∧ IsTx w' ra ga sa [0, 1] [gPay n] [s1Pay n, s2Pay n] ∧ XAt w.heap.size ra ga sa ∧ Below w.heap.size w w' := by
  go_enter Tryz.func102, Tryz.ntmps102
  go_wp2_with fail
  refine (lawNumber_any n _).mono ?_
  rintro e w' ⟨rfl, rfl⟩
  go_wp2_with fail
  refine (lawValue_any 0 _).mono ?_
  rintro e w' ⟨rfl, rfl⟩
  go_wp2_with fail
  refine (lawValue_any 0 _).mono ?_
  rintro e w' ⟨rfl, rfl⟩
  go_wp2_with fail
  refine (lawNumber_any n _).mono ?_
  rintro e w' ⟨rfl, rfl⟩
  go_wp2_with fail
  refine (lawValue_any 1 _).mono ?_
  rintro e w' ⟨rfl, rfl⟩
  go_wp2_with fail
  refine (lawNumber_any n _).mono ?_
  rintro e w' ⟨rfl, rfl⟩
  go_wp2
  refine bodyPost_ret (v := .agg #[.slice (some ⟨w.heap.size + 1, 0, none⟩) 2 2, .slice (some ⟨w.heap.size + 1 + 1 + 1 + 1, 0, none⟩) 1 1, .slice (some ⟨w.heap.size + 1 + 1 + 1 + 1 + 1 + 1 + 1 + 1 + 1, 0, none⟩) 2 2]) ?_ rfl ⟨_, _, _, _, _, _, rfl, ⟨?_, ?_, ?_, by simp [maxLen], by simp [maxLen], by simp [maxLen]⟩, ?_, ?_⟩
  · simp [results, Tryz.results102, go_sem]
  · generalize Obj.cells #[_, _, _] 79 = O0
    exact (isInts_two (w.alloc O0) (w.heap.size + 1) 0 1 (by simp)).below (by repeat (first | assumption | exact Below.refl _ _ | refine grow_drew ?_ | refine grow_alloc ?_ _ | refine grow_trans ?_ (by assumption)))
  · generalize Obj.cells #[_, _, _] 79 = O0
    exact (isGs_one ((((w.alloc O0).alloc (.cells #[.int .i64 0, .int .i64 1] 3)).alloc (.cells #[.int .i64 1, .int .i64 n] 152)).alloc (.cells #[.int .i64 2, .int .i64 0] 152)) (w.heap.size + 1 + 1 + 1 + 1) 4 1 n 2 0 (by simp)).below (by repeat (first | assumption | exact Below.refl _ _ | refine grow_drew ?_ | refine grow_alloc ?_ _ | refine grow_trans ?_ (by assumption)))
  · exact isSs_two _ _ _ _ _ _ _ _ _ _ _ _ _ _ (by simp)
  · exact ⟨fun ad h => by first | (cases h; done) | (injection h with h; subst h; first | (simp; done) | (simp; omega)), fun ad h => by first | (cases h; done) | (injection h with h; subst h; first | (simp; done) | (simp; omega)), fun ad h => by first | (cases h; done) | (injection h with h; subst h; first | (simp; done) | (simp; omega))⟩
  · repeat (first | assumption | exact Below.refl _ _ | refine grow_drew ?_ | refine grow_alloc ?_ _ | refine grow_trans ?_ (by assumption))

set_option maxRecDepth 100000 in
set_option maxHeartbeats 1000000 in
theorem mark_at (n : Int) (w : World) : Calls Tryz.prog 104 #[.int .i64 n] w fun e w' => ∃ sa sc, e = .returned (.agg #[.slice none ([] : List Int).length 0, .slice none ([] : List Gd).length 0, .slice sa [sMark n].length sc]) ∧ IsTx w' none none sa [] [] [sMark n] ∧ XAt w.heap.size none none sa ∧ Below w.heap.size w w' := by
  go_enter Tryz.func104, Tryz.ntmps104
  go_wp2_with fail
  refine (lawNumber_any n _).mono ?_
  rintro e w' ⟨rfl, rfl⟩
  go_wp2_with fail
  refine (lawNumber_any 0 _).mono ?_
  rintro e w' ⟨rfl, rfl⟩
  go_wp2
  refine bodyPost_ret (v := .agg #[.slice none 0 0, .slice none 0 0, .slice (some ⟨w.heap.size + 1 + 1 + 1, 0, none⟩) 1 1]) ?_ rfl ⟨_, _, rfl, ⟨?_, ?_, ?_, by simp [maxLen], by simp [maxLen], by simp [maxLen]⟩, ?_, ?_⟩
  · simp [results, Tryz.results104, go_sem]
  · exact fun i hi => absurd hi (by simp)
  · exact fun i hi => absurd hi (by simp)
  · exact isSs_one _ _ _ _ _ _ _ _ (by simp)
  · exact ⟨fun ad h => by first | (cases h; done) | (injection h with h; subst h; first | (simp; done) | (simp; omega)), fun ad h => by first | (cases h; done) | (injection h with h; subst h; first | (simp; done) | (simp; omega)), fun ad h => by first | (cases h; done) | (injection h with h; subst h; first | (simp; done) | (simp; omega))⟩
  · repeat (first | assumption | exact Below.refl _ _ | refine grow_drew ?_ | refine grow_alloc ?_ _ | refine grow_trans ?_ (by assumption))

set_option maxRecDepth 100000 in
set_option maxHeartbeats 1000000 in
theorem three_any (w : World) : Calls Tryz.prog 56 #[] w fun e w' => ∃ a ra ga sa rc gc sc ra2 sa2 rc2 sc2 sa3 sc3, e = .returned (.agg #[.int .i64 ((2 : Nat) : Int), .slice a [xPay ra ga sa rc gc sc, xNote ra2 sa2 rc2 sc2, xMark 9 sa3 sc3].length 3]) ∧ IsTxs w' a [xPay ra ga sa rc gc sc, xNote ra2 sa2 rc2 sc2, xMark 9 sa3 sc3] ∧ Below w.heap.size w w' := by
  go_enter Tryz.func56, Tryz.ntmps56
  have q0 : (w.alloc (.cells #[.int .i64 0, .slice none 0 0] 24)).cell? ⟨w.heap.size, 0, none⟩ = some (.int .i64 0) := by simp
  have q1 : (w.alloc (.cells #[.int .i64 0, .slice none 0 0] 24)).cell? ⟨w.heap.size, 1, none⟩ = some (.slice none 0 0) := by simp
  have qf : ∀ j, (w.alloc (.cells #[.int .i64 0, .slice none 0 0] 24)).frozen? ⟨w.heap.size, j, none⟩ = false := fun j => by simp
  have qs : w.heap.size < (w.alloc (.cells #[.int .i64 0, .slice none 0 0] 24)).heap.size := by simp
  have B0 : Hid (Below w.heap.size w (w.alloc (.cells #[.int .i64 0, .slice none 0 0] 24))) := grow_alloc (Below.refl _ _) _
  go_wp2_with fail
  generalize (w.alloc (.cells #[.int .i64 0, .slice none 0 0] 24)) = W at *
  refine (pay_at 3 _).mono ?_
  rintro e w1 ⟨ra, ga, sa, rc, gc, sc, rfl, ht1, hq1, hb1⟩
  have hx1 : Hid (IsX w1 (xPay ra ga sa rc gc sc)) := ⟨ht1, some_of_ints ht1.r, some_of_gs ht1.g, some_of_ss ht1.s⟩
  clear ht1
  go_wp2_with fail
  refine (note_at _).mono ?_
  rintro e w2 ⟨ra2, sa2, rc2, sc2, rfl, ht2, hq2, hb2⟩
  have hx2 : Hid (IsX w2 (xNote ra2 sa2 rc2 sc2)) := ⟨ht2, some_of_ints ht2.r, fun _ => rfl, some_of_ss ht2.s⟩
  clear ht2
  go_wp2_with fail
  refine (mark_at 9 _).mono ?_
  rintro e w3 ⟨sa3, sc3, rfl, ht3, hq3, hb3⟩
  have hx3 : Hid (IsX w3 (xMark 9 sa3 sc3)) := ⟨ht3, fun _ => rfl, fun _ => rfl, some_of_ss ht3.s⟩
  clear ht3
  have B3 : Below W.heap.size W w3 := grow_trans hb1 (grow_trans hb2 hb3)
  have r0 := ext_cell B3 q0
  have r1 := ext_cell B3 q1
  have rf : ∀ j, w3.frozen? ⟨w.heap.size, j, none⟩ = false := fun j => (B3.frozen (p := ⟨w.heap.size, j, none⟩) qs).trans (qf j)
  have y1 : Hid (IsX w3 (xPay ra ga sa rc gc sc)) := hx1.out.below (grow_trans hb2 hb3)
  have y2 : Hid (IsX w3 (xNote ra2 sa2 rc2 sc2)) := hx2.out.below hb3
  have BB : Hid (Below w.heap.size w w3) := grow_trans B0.out B3
  have s1 := hb1.size
  have s2 := hb2.size
  have s3 := hb3.size
  have z1 : Hid (XAt (w.heap.size + 1) ra ga sa) := hq1.low (by omega)
  have z2 : Hid (XAt (w.heap.size + 1) ra2 none sa2) := hq2.low (by omega)
  have z3 : Hid (XAt (w.heap.size + 1) none none sa3) := hq3.low (by omega)
  have hws : w.heap.size < w3.heap.size := by omega
  clear B3 hb1 hb2 hb3 hx1 hx2 q0 q1 qf B0 s1 s2 s3 hq1 hq2 hq3 qs
  go_wp2
  have t1 := far_x (far_x y1.out w.heap.size 0 (.int .i64 2) z1.out) w.heap.size 1 (.slice (some ⟨w3.heap.size, 0, none⟩) 3 3) z1.out
  have t2 := far_x (far_x y2.out w.heap.size 0 (.int .i64 2) z2.out) w.heap.size 1 (.slice (some ⟨w3.heap.size, 0, none⟩) 3 3) z2.out
  have t3 := far_x (far_x hx3.out w.heap.size 0 (.int .i64 2) z3.out) w.heap.size 1 (.slice (some ⟨w3.heap.size, 0, none⟩) 3 3) z3.out
  refine bodyPost_ret (v := .agg #[.int .i64 2, .slice (some ⟨w3.heap.size, 0, none⟩) 3 3]) ?_ rfl ⟨some ⟨w3.heap.size, 0, none⟩, ra, ga, sa, rc, gc, sc, ra2, sa2, rc2, sc2, sa3, sc3, rfl, ?_, ?_⟩
  · have e0 := fun (o : Obj) => (World.cell?_alloc_lt ((w3.setCell ⟨w.heap.size, 0, none⟩ (.int .i64 2)).setCell ⟨w.heap.size, 1, none⟩ (.slice (some ⟨w3.heap.size, 0, none⟩) 3 3)) o ⟨w.heap.size, 0, none⟩ (by simp; exact hws)).trans (show _ = some (.int .i64 2) by simp [go_sem, r0])
    have e1 := fun (o : Obj) => (World.cell?_alloc_lt ((w3.setCell ⟨w.heap.size, 0, none⟩ (.int .i64 2)).setCell ⟨w.heap.size, 1, none⟩ (.slice (some ⟨w3.heap.size, 0, none⟩) 3 3)) o ⟨w.heap.size, 1, none⟩ (by simp; exact hws)).trans (show _ = some (.slice (some ⟨w3.heap.size, 0, none⟩) 3 3) by simp [go_sem, r1])
    simp [results, Tryz.results56, go_sem, e0, e1]
  · exact isTxs_three _ (xPay ra ga sa rc gc sc) (xNote ra2 sa2 rc2 sc2) (xMark 9 sa3 sc3) _ (by simp) t1 t2 t3
  · exact grow_alloc (grow_set (grow_set BB.out (Nat.le_refl _) _) (Nat.le_refl _) _) _

end Go.Proofs.YtebjkmknhpgemaaGreat
