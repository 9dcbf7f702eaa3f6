/-
  
  Conditions: those that each theorem states.
-/
import Derived.Test.YtebjkmknhpgemaaGreatSPlaceD
set_option maxRecDepth 100000
namespace Go.Proofs.YtebjkmknhpgemaaGreat
open Go.RowKit
theorem keysIn_on (rs ks : List Int) (j : Nat) (h : (j : Int) ∈ ks ∨ (j : Int) ∈ rs) : keysIn (lkTo rs ks (j + 1)) = keysIn (lkTo rs ks j) ++ [(j : Int)] := by
 rw [lkTo, if_pos h]
 simp [keysIn]
theorem keysIn_off (rs ks : List Int) (j : Nat) (h : ¬ ((j : Int) ∈ ks ∨ (j : Int) ∈ rs)) : keysIn (lkTo rs ks (j + 1)) = keysIn (lkTo rs ks j) := by
 rw [lkTo, if_neg h]
 simp [keysIn]
theorem setsIn_on (rs ks : List Int) (j : Nat) (h : (j : Int) ∈ ks) : setsIn (lkTo rs ks (j + 1)) = setsIn (lkTo rs ks j) ++ [(j : Int)] := by
 rw [lkTo, if_pos (.inl h)]
 unfold setsIn
 rw [List.filter_append, List.map_append]
 simp [h]
theorem setsIn_off (rs ks : List Int) (j : Nat) (h : ¬ (j : Int) ∈ ks) : setsIn (lkTo rs ks (j + 1)) = setsIn (lkTo rs ks j) := by
 rw [lkTo]
 unfold setsIn
 rw [List.filter_append, List.map_append]
 by_cases c : (j : Int) ∈ ks ∨ (j : Int) ∈ rs
 ·rw [if_pos c]; simp [h]
 ·rw [if_neg c]; simp
theorem marks_on (sh j : Nat) (ks : List Int) : marks sh (ks ++ [(j : Int)]) = (marks sh ks).set (j % sh) true := by rw [marks_snoc]; simp
variable (la : Option Addr) (lc : Nat) (l : List TxA)
set_option maxHeartbeats 4000000 in
theorem partOf_any (sh k : Nat) (w : World) (hl : IsTxs w la l) (he : pnE sh l k = 0) :
  Calls Tryz.prog 53 #[.agg #[.int .i64 sh, .slice la l.length lc], .int .i64 k] w fun e w' => ∃ a c, e = .returned (.slice a (marks sh (keysIn (locksAt l k))).length c) ∧ IsBools w' a (marks sh (keysIn (locksAt l k))) ∧ Below w.heap.size w w' := by
 obtain ⟨i0, hi, hz0, hz1, hz2⟩ := info_parts Tryz.info4
 have hsh := planE_zero (pnE_zero he).1
 have hkl : k < l.length := by have := noneE_zero (pnE_zero he).2; omega
 have hl8 := chkL_small hsh.2.2
 have s0 : 0 < sh := by omega
 have s4 : sh ≤ 4 := by omega
 have HM : Hid ((madeCells (Value.bool false).cells (sh * 1)).toList = (List.replicate sh false).map Value.bool) := made_bools sh s4
 rw [marks_len]
 obtain ⟨b, off, rfl, hb, c0, c1, c2, hx⟩ := hl k hkl
 have HX : Hid (IsX w (l.getD k x0)) := hx
 have HLK : Hid (locksAt l k = lkTo (l.getD k x0).rs (keysOf (l.getD k x0).ss) 8) := rfl
 clear hx hl he hsh
 generalize locksAt l k = L at *
 generalize l.getD k x0 = x at *
 obtain ⟨ra, ga, sa, rc, gc, sc, rs, gs, ss⟩ := x
 simp only at c0 c1 c2 HLK
 have q0 : (w.alloc (.cells #[.int .i64 sh, .slice (some ⟨b, off, none⟩) l.length lc] 24)).cell? ⟨w.heap.size, 0, none⟩ = some (.int .i64 sh) := by simp
 have q1 : (w.alloc (.cells #[.int .i64 sh, .slice (some ⟨b, off, none⟩) l.length lc] 24)).cell? ⟨w.heap.size, 1, none⟩ = some (.slice (some ⟨b, off, none⟩) l.length lc) := by simp
 have hU : Below w.heap.size w (w.alloc (.cells #[.int .i64 sh, .slice (some ⟨b, off, none⟩) l.length lc] 24)) := grow_alloc (Below.refl _ _) _
 have hsz : w.heap.size + 1 = (w.alloc (.cells #[.int .i64 sh, .slice (some ⟨b, off, none⟩) l.length lc] 24)).heap.size := by simp
 go_enter Tryz.func53, Tryz.ntmps53
 go_wp2_with (first | (at_make; refine wpList_make_full _ rfl _ _ 65 rfl (w.heap.size + 1) 4 i0 (.bool false) 1 Tryz.underlying65 hi hz0 hz1 .i64 .i64 _ _ sh rfl rfl rfl rfl (by rw [hz2]; omega) (by unfold maxLen; omega) (by simp) ?_; intro w1 hown hgrow) | go_in)
 generalize w.alloc (.cells #[.int .i64 sh, .slice (some ⟨b, off, none⟩) l.length lc] 24) = W at *
 rw [HM.out] at hown
 have UW := Below.grown (Below.refl (w.heap.size + 1) W) hgrow (by omega) (fun j hj => by cases hj)
 have r0 : w1.cell? ⟨w.heap.size, 0, none⟩ = some (.int .i64 sh) := (UW.cell (p := ⟨w.heap.size, 0, none⟩) (by simp)).trans q0
 have r1 : w1.cell? ⟨w.heap.size, 1, none⟩ = some (.slice (some ⟨b, off, none⟩) l.length lc) := (UW.cell (p := ⟨w.heap.size, 1, none⟩) (by simp)).trans q1
 have hW1 : Hid (Below w.heap.size w w1) := hU.trans (UW.mono (by omega))
 have hg1 : W.heap.size < w1.heap.size := by
  have := (hown.lt W.heap.size (by simp [Value.ownBlock])).2
  exact this
 have hm0 : Hid (w1.ownsRow (w.heap.size + 1) 4 1 (.slice (some ⟨W.heap.size, 0, none⟩) sh sh) sh ((marks sh (keysIn (lkTo rs (keysOf ss) 0))).map Value.bool)) := hown
 have hgw0 : w.heap.size + 1 ≤ W.heap.size := by omega
 clear q0 q1 hU UW hown hgrow HM
 generalize W.heap.size = g at *
 have hgw : w.heap.size ≠ g := by omega
 go_wp2
 go_loopw [6] (fun i wr => ∃ j : Nat, j ≤ 8 ∧ i = .int .i64 j ∧ Hid (wr.ownsRow (w.heap.size + 1) 4 1 (.slice (some ⟨g, 0, none⟩) sh sh) sh ((marks sh (keysIn (lkTo rs (keysOf ss) j))).map Value.bool)) ∧ w1.grownBy wr (some g)) (fun i _ => 8 - (intOf i).toNat)
 case atStart => exact ⟨0, Nat.zero_le _, rfl, hm0, World.grownBy.refl _ _⟩
 case round =>
  obtain ⟨j, hj, rfl, hown, hgr⟩ := hrel
  clear hm0
  have hB : Hid (Below w.heap.size w wr) := hW1.out.trans ((Below.grown (Below.refl w.heap.size w1) hgr (by omega) (fun j hj => by injection hj with hj; omega)))
  by_cases hlt : j < 8
  ·have t0 : wr.cell? ⟨w.heap.size, 0, none⟩ = some (.int .i64 sh) := hgr.cell r0 (by simpa using hgw)
   have t1 : wr.cell? ⟨w.heap.size, 1, none⟩ = some (.slice (some ⟨b, off, none⟩) l.length lc) := hgr.cell r1 (by simpa using hgw)
   have d0 := ext_cell hB.out c0
   have d1 := ext_cell hB.out c1
   have d2 := ext_cell hB.out c2
   have HXR : Hid (IsTx wr ra ga sa rs gs ss) := HX.out.t.below hB.out
   have ku : ∀ o, Below wr.heap.size wr (wr.alloc o) := fun o => grow_alloc (Below.refl _ _) _
   have kv : ∀ o, Below (wr.alloc o).heap.size (wr.alloc o) ((wr.alloc o).alloc o) := fun o => grow_alloc (Below.refl _ _) _
   have hm1 : (0 : Int) ≤ ((j % sh : Nat) : Int) := by omega
   have hm2 : ((j % sh : Nat) : Int) < (sh : Int) := by have := Nat.mod_lt j s0; omega
   by_cases hr : (j : Int) ∈ rs
   ·
    have HT : Hid (marks sh (keysIn (lkTo rs (keysOf ss) (j + 1))) = (marks sh (keysIn (lkTo rs (keysOf ss) j))).set (j % sh) true) := by show _ = _; rw [keysIn_on _ _ _ (.inr hr), marks_on]
    have hMl : (marks sh (keysIn (lkTo rs (keysOf ss) j))).length = sh := marks_len sh _
    have ho1 := owns_below hown.out (ku (.cells #[.slice ra rs.length rc, .slice ga gs.length gc, .slice sa ss.length sc] 79))
    have q3 := bool_cell ho1 (j % sh) (by rw [hMl]; exact Nat.mod_lt j s0)
    have q4 : (wr.alloc (.cells #[.slice ra rs.length rc, .slice ga gs.length gc, .slice sa ss.length sc] 79)).frozen? ⟨g, j % sh, none⟩ = false := ho1.frozenAt (j % sh)
    have R1 : Hid (((wr.alloc (.cells #[.slice ra rs.length rc, .slice ga gs.length gc, .slice sa ss.length sc] 79)).setCell ⟨g, j % sh, none⟩ (.bool true)).ownsRow (w.heap.size + 1) 4 1 (.slice (some ⟨g, 0, none⟩) sh sh) sh ((marks sh (keysIn (lkTo rs (keysOf ss) (j + 1)))).map Value.bool)) := by
     have h := (ho1.stored (j % sh) (.bool true)).1
     rw [HT.out, List.map_set]
     exact h
    have R2 : Hid (w1.grownBy ((wr.alloc (.cells #[.slice ra rs.length rc, .slice ga gs.length gc, .slice sa ss.length sc] 79)).setCell ⟨g, j % sh, none⟩ (.bool true)) (some g)) := (hgr.trans (World.grownBy_alloc wr _ _)).trans (grown_one _ g (j % sh) _)
    generalize (marks sh (keysIn (lkTo rs (keysOf ss) j))).getD (j % sh) false = old at *
    have v0 : (wr.alloc (.cells #[.slice ra rs.length rc, .slice ga gs.length gc, .slice sa ss.length sc] 79)).cell? ⟨w.heap.size, 0, none⟩ = some (.int .i64 sh) := ext_cell (ku (.cells #[.slice ra rs.length rc, .slice ga gs.length gc, .slice sa ss.length sc] 79)) t0
    have v1 : (wr.alloc (.cells #[.slice ra rs.length rc, .slice ga gs.length gc, .slice sa ss.length sc] 79)).cell? ⟨w.heap.size, 1, none⟩ = some (.slice (some ⟨b, off, none⟩) l.length lc) := ext_cell (ku (.cells #[.slice ra rs.length rc, .slice ga gs.length gc, .slice sa ss.length sc] 79)) t1
    have e0 := ext_cell (ku (.cells #[.slice ra rs.length rc, .slice ga gs.length gc, .slice sa ss.length sc] 79)) d0
    have e1 := ext_cell (ku (.cells #[.slice ra rs.length rc, .slice ga gs.length gc, .slice sa ss.length sc] 79)) d1
    have e2 := ext_cell (ku (.cells #[.slice ra rs.length rc, .slice ga gs.length gc, .slice sa ss.length sc] 79)) d2
    have hd : decide ((j : Int) ∈ rs) = true := by simp [hr]
    clear hown hgr hr hMl ho1 ku kv HT
    go_wp2_with fail
    refine (reads_any ra ga sa rc gc sc rs gs ss j _ HXR.out).mono ?_
    rintro e w' ⟨rfl, hw'⟩
    rw [hw', hd]
    clear hw' w' hd t0 t1 d0 d1 d2 HXR hB
    generalize wr.alloc (.cells #[.slice ra rs.length rc, .slice ga gs.length gc, .slice sa ss.length sc] 79) = V at *
    go_wp2
    go_roundw
    case rel => exact ⟨j + 1, by omega, by go_num, R1, R2.out⟩
    case measure => simp [intOf]; omega
   ·
    have hd : decide ((j : Int) ∈ rs) = false := by simp [hr]
    have HX1 : Hid (IsTx (wr.alloc (.cells #[.slice ra rs.length rc, .slice ga gs.length gc, .slice sa ss.length sc] 79)) ra ga sa rs gs ss) := HXR.out.below (ku _)
    by_cases hk : (j : Int) ∈ keysOf ss
    ·
     have HT : Hid (marks sh (keysIn (lkTo rs (keysOf ss) (j + 1))) = (marks sh (keysIn (lkTo rs (keysOf ss) j))).set (j % sh) true) := by show _ = _; rw [keysIn_on _ _ _ (.inl hk), marks_on]
     have hMl : (marks sh (keysIn (lkTo rs (keysOf ss) j))).length = sh := marks_len sh _
     have ho1 := owns_below (owns_below hown.out (ku (.cells #[.slice ra rs.length rc, .slice ga gs.length gc, .slice sa ss.length sc] 79))) (kv (.cells #[.slice ra rs.length rc, .slice ga gs.length gc, .slice sa ss.length sc] 79))
     have q3 := bool_cell ho1 (j % sh) (by rw [hMl]; exact Nat.mod_lt j s0)
     have q4 : ((wr.alloc (.cells #[.slice ra rs.length rc, .slice ga gs.length gc, .slice sa ss.length sc] 79)).alloc (.cells #[.slice ra rs.length rc, .slice ga gs.length gc, .slice sa ss.length sc] 79)).frozen? ⟨g, j % sh, none⟩ = false := ho1.frozenAt (j % sh)
     have R1 : Hid ((((wr.alloc (.cells #[.slice ra rs.length rc, .slice ga gs.length gc, .slice sa ss.length sc] 79)).alloc (.cells #[.slice ra rs.length rc, .slice ga gs.length gc, .slice sa ss.length sc] 79)).setCell ⟨g, j % sh, none⟩ (.bool true)).ownsRow (w.heap.size + 1) 4 1 (.slice (some ⟨g, 0, none⟩) sh sh) sh ((marks sh (keysIn (lkTo rs (keysOf ss) (j + 1)))).map Value.bool)) := by
      have h := (ho1.stored (j % sh) (.bool true)).1
      rw [HT.out, List.map_set]
      exact h
     have R2 : Hid (w1.grownBy (((wr.alloc (.cells #[.slice ra rs.length rc, .slice ga gs.length gc, .slice sa ss.length sc] 79)).alloc (.cells #[.slice ra rs.length rc, .slice ga gs.length gc, .slice sa ss.length sc] 79)).setCell ⟨g, j % sh, none⟩ (.bool true)) (some g)) := (hgr.trans ((World.grownBy_alloc wr _ _).trans (World.grownBy_alloc _ _ _))).trans (grown_one _ g (j % sh) _)
     generalize (marks sh (keysIn (lkTo rs (keysOf ss) j))).getD (j % sh) false = old at *
     have hd2 : decide ((j : Int) ∈ keysOf ss) = true := by simp [hk]
     have v0 : (wr.alloc (.cells #[.slice ra rs.length rc, .slice ga gs.length gc, .slice sa ss.length sc] 79)).cell? ⟨w.heap.size, 0, none⟩ = some (.int .i64 sh) := ext_cell (ku (.cells #[.slice ra rs.length rc, .slice ga gs.length gc, .slice sa ss.length sc] 79)) t0
     have v1 : (wr.alloc (.cells #[.slice ra rs.length rc, .slice ga gs.length gc, .slice sa ss.length sc] 79)).cell? ⟨w.heap.size, 1, none⟩ = some (.slice (some ⟨b, off, none⟩) l.length lc) := ext_cell (ku (.cells #[.slice ra rs.length rc, .slice ga gs.length gc, .slice sa ss.length sc] 79)) t1
     have e0 := ext_cell (ku (.cells #[.slice ra rs.length rc, .slice ga gs.length gc, .slice sa ss.length sc] 79)) d0
     have e1 := ext_cell (ku (.cells #[.slice ra rs.length rc, .slice ga gs.length gc, .slice sa ss.length sc] 79)) d1
     have e2 := ext_cell (ku (.cells #[.slice ra rs.length rc, .slice ga gs.length gc, .slice sa ss.length sc] 79)) d2
     have f0 := ext_cell (kv (.cells #[.slice ra rs.length rc, .slice ga gs.length gc, .slice sa ss.length sc] 79)) v0
     have f1 := ext_cell (kv (.cells #[.slice ra rs.length rc, .slice ga gs.length gc, .slice sa ss.length sc] 79)) v1
     clear hown hgr hr hk hMl ho1 ku kv HT
     go_wp2_with fail
     refine (reads_any ra ga sa rc gc sc rs gs ss j _ HXR.out).mono ?_
     rintro e w' ⟨rfl, hw'⟩
     rw [hw', hd]
     clear hw' w' hd t0 t1 d0 d1 d2 HXR hB
     go_wp2_with fail
     refine (writes_any ra ga sa rc gc sc rs gs ss j _ HX1.out).mono ?_
     rintro e w' ⟨rfl, hw'⟩
     rw [hw', hd2]
     clear hw' w' hd2 v0 v1 e0 e1 e2 HX1
     generalize (wr.alloc (.cells #[.slice ra rs.length rc, .slice ga gs.length gc, .slice sa ss.length sc] 79)).alloc (.cells #[.slice ra rs.length rc, .slice ga gs.length gc, .slice sa ss.length sc] 79) = V at *
     go_wp2
     go_roundw
     case rel => exact ⟨j + 1, by omega, by go_num, R1, R2.out⟩
     case measure => simp [intOf]; omega
    ·have HT : Hid (keysIn (lkTo rs (keysOf ss) (j + 1)) = keysIn (lkTo rs (keysOf ss) j)) := keysIn_off _ _ _ (fun h => h.elim hk hr)
     have R1 : Hid (((wr.alloc (.cells #[.slice ra rs.length rc, .slice ga gs.length gc, .slice sa ss.length sc] 79)).alloc (.cells #[.slice ra rs.length rc, .slice ga gs.length gc, .slice sa ss.length sc] 79)).ownsRow (w.heap.size + 1) 4 1 (.slice (some ⟨g, 0, none⟩) sh sh) sh ((marks sh (keysIn (lkTo rs (keysOf ss) (j + 1)))).map Value.bool)) := by
      rw [HT.out]; exact owns_below (owns_below hown.out (ku _)) (kv _)
     have R2 : Hid (w1.grownBy ((wr.alloc (.cells #[.slice ra rs.length rc, .slice ga gs.length gc, .slice sa ss.length sc] 79)).alloc (.cells #[.slice ra rs.length rc, .slice ga gs.length gc, .slice sa ss.length sc] 79)) (some g)) := hgr.trans ((World.grownBy_alloc wr _ _).trans (World.grownBy_alloc _ _ _))
     have hd2 : decide ((j : Int) ∈ keysOf ss) = false := by simp [hk]
     have v0 : (wr.alloc (.cells #[.slice ra rs.length rc, .slice ga gs.length gc, .slice sa ss.length sc] 79)).cell? ⟨w.heap.size, 0, none⟩ = some (.int .i64 sh) := ext_cell (ku (.cells #[.slice ra rs.length rc, .slice ga gs.length gc, .slice sa ss.length sc] 79)) t0
     have v1 : (wr.alloc (.cells #[.slice ra rs.length rc, .slice ga gs.length gc, .slice sa ss.length sc] 79)).cell? ⟨w.heap.size, 1, none⟩ = some (.slice (some ⟨b, off, none⟩) l.length lc) := ext_cell (ku (.cells #[.slice ra rs.length rc, .slice ga gs.length gc, .slice sa ss.length sc] 79)) t1
     have e0 := ext_cell (ku (.cells #[.slice ra rs.length rc, .slice ga gs.length gc, .slice sa ss.length sc] 79)) d0
     have e1 := ext_cell (ku (.cells #[.slice ra rs.length rc, .slice ga gs.length gc, .slice sa ss.length sc] 79)) d1
     have e2 := ext_cell (ku (.cells #[.slice ra rs.length rc, .slice ga gs.length gc, .slice sa ss.length sc] 79)) d2
     clear hown hgr hr hk ku kv HT
     go_wp2_with fail
     refine (reads_any ra ga sa rc gc sc rs gs ss j _ HXR.out).mono ?_
     rintro e w' ⟨rfl, hw'⟩
     rw [hw', hd]
     clear hw' w' hd t0 t1 d0 d1 d2 HXR hB
     go_wp2_with fail
     refine (writes_any ra ga sa rc gc sc rs gs ss j _ HX1.out).mono ?_
     rintro e w' ⟨rfl, hw'⟩
     rw [hw', hd2]
     clear hw' w' hd2 v0 v1 e0 e1 e2 HX1
     generalize (wr.alloc (.cells #[.slice ra rs.length rc, .slice ga gs.length gc, .slice sa ss.length sc] 79)).alloc (.cells #[.slice ra rs.length rc, .slice ga gs.length gc, .slice sa ss.length sc] 79) = V at *
     go_wp2
     go_roundw
     case rel => exact ⟨j + 1, by omega, by go_num, R1, R2.out⟩
     case measure => simp [intOf]; omega
  ·have hjj : j = 8 := by omega
   have hfin : Hid (IsBools wr (some ⟨g, 0, none⟩) (marks sh (keysIn L))) := by
    have h := hown.out
    rw [hjj, ← HLK.out] at h
    exact bools_of_owns h
   clear hown hgr
   go_wp2
   go_ret
   exact ⟨some ⟨g, 0, none⟩, sh, rfl, hfin.out, hB.out⟩
set_option maxHeartbeats 4000000 in
theorem activeOf_any (sh k : Nat) (w : World) (hl : IsTxs w la l) (he : pnE sh l k = 0) :
  Calls Tryz.prog 54 #[.agg #[.int .i64 sh, .slice la l.length lc], .int .i64 k] w fun e w' => ∃ a c, e = .returned (.slice a (marks sh (setsIn (locksAt l k))).length c) ∧ IsBools w' a (marks sh (setsIn (locksAt l k))) ∧ Below w.heap.size w w' := by
 obtain ⟨i0, hi, hz0, hz1, hz2⟩ := info_parts Tryz.info4
 have hsh := planE_zero (pnE_zero he).1
 have hkl : k < l.length := by have := noneE_zero (pnE_zero he).2; omega
 have hl8 := chkL_small hsh.2.2
 have s0 : 0 < sh := by omega
 have s4 : sh ≤ 4 := by omega
 have HM : Hid ((madeCells (Value.bool false).cells (sh * 1)).toList = (List.replicate sh false).map Value.bool) := made_bools sh s4
 rw [marks_len]
 obtain ⟨b, off, rfl, hb, c0, c1, c2, hx⟩ := hl k hkl
 have HX : Hid (IsX w (l.getD k x0)) := hx
 have HLK : Hid (locksAt l k = lkTo (l.getD k x0).rs (keysOf (l.getD k x0).ss) 8) := rfl
 clear hx hl he hsh
 generalize locksAt l k = L at *
 generalize l.getD k x0 = x at *
 obtain ⟨ra, ga, sa, rc, gc, sc, rs, gs, ss⟩ := x
 simp only at c0 c1 c2 HLK
 have q0 : (w.alloc (.cells #[.int .i64 sh, .slice (some ⟨b, off, none⟩) l.length lc] 24)).cell? ⟨w.heap.size, 0, none⟩ = some (.int .i64 sh) := by simp
 have q1 : (w.alloc (.cells #[.int .i64 sh, .slice (some ⟨b, off, none⟩) l.length lc] 24)).cell? ⟨w.heap.size, 1, none⟩ = some (.slice (some ⟨b, off, none⟩) l.length lc) := by simp
 have hU : Below w.heap.size w (w.alloc (.cells #[.int .i64 sh, .slice (some ⟨b, off, none⟩) l.length lc] 24)) := grow_alloc (Below.refl _ _) _
 have hsz : w.heap.size + 1 = (w.alloc (.cells #[.int .i64 sh, .slice (some ⟨b, off, none⟩) l.length lc] 24)).heap.size := by simp
 go_enter Tryz.func54, Tryz.ntmps54
 go_wp2_with (first | (at_make; refine wpList_make_full _ rfl _ _ 65 rfl (w.heap.size + 1) 4 i0 (.bool false) 1 Tryz.underlying65 hi hz0 hz1 .i64 .i64 _ _ sh rfl rfl rfl rfl (by rw [hz2]; omega) (by unfold maxLen; omega) (by simp) ?_; intro w1 hown hgrow) | go_in)
 generalize w.alloc (.cells #[.int .i64 sh, .slice (some ⟨b, off, none⟩) l.length lc] 24) = W at *
 rw [HM.out] at hown
 have UW := Below.grown (Below.refl (w.heap.size + 1) W) hgrow (by omega) (fun j hj => by cases hj)
 have r0 : w1.cell? ⟨w.heap.size, 0, none⟩ = some (.int .i64 sh) := (UW.cell (p := ⟨w.heap.size, 0, none⟩) (by simp)).trans q0
 have r1 : w1.cell? ⟨w.heap.size, 1, none⟩ = some (.slice (some ⟨b, off, none⟩) l.length lc) := (UW.cell (p := ⟨w.heap.size, 1, none⟩) (by simp)).trans q1
 have hW1 : Hid (Below w.heap.size w w1) := hU.trans (UW.mono (by omega))
 have hg1 : W.heap.size < w1.heap.size := by
  have := (hown.lt W.heap.size (by simp [Value.ownBlock])).2
  exact this
 have hm0 : Hid (w1.ownsRow (w.heap.size + 1) 4 1 (.slice (some ⟨W.heap.size, 0, none⟩) sh sh) sh ((marks sh (setsIn (lkTo rs (keysOf ss) 0))).map Value.bool)) := hown
 have hgw0 : w.heap.size + 1 ≤ W.heap.size := by omega
 clear q0 q1 hU UW hown hgrow HM
 generalize W.heap.size = g at *
 have hgw : w.heap.size ≠ g := by omega
 go_wp2
 go_loopw [6] (fun i wr => ∃ j : Nat, j ≤ 8 ∧ i = .int .i64 j ∧ Hid (wr.ownsRow (w.heap.size + 1) 4 1 (.slice (some ⟨g, 0, none⟩) sh sh) sh ((marks sh (setsIn (lkTo rs (keysOf ss) j))).map Value.bool)) ∧ w1.grownBy wr (some g)) (fun i _ => 8 - (intOf i).toNat)
 case atStart => exact ⟨0, Nat.zero_le _, rfl, hm0, World.grownBy.refl _ _⟩
 case round =>
  obtain ⟨j, hj, rfl, hown, hgr⟩ := hrel
  clear hm0
  have hB : Hid (Below w.heap.size w wr) := hW1.out.trans ((Below.grown (Below.refl w.heap.size w1) hgr (by omega) (fun j hj => by injection hj with hj; omega)))
  by_cases hlt : j < 8
  ·have t0 : wr.cell? ⟨w.heap.size, 0, none⟩ = some (.int .i64 sh) := hgr.cell r0 (by simpa using hgw)
   have t1 : wr.cell? ⟨w.heap.size, 1, none⟩ = some (.slice (some ⟨b, off, none⟩) l.length lc) := hgr.cell r1 (by simpa using hgw)
   have d0 := ext_cell hB.out c0
   have d1 := ext_cell hB.out c1
   have d2 := ext_cell hB.out c2
   have HXR : Hid (IsTx wr ra ga sa rs gs ss) := HX.out.t.below hB.out
   have ku : ∀ o, Below wr.heap.size wr (wr.alloc o) := fun o => grow_alloc (Below.refl _ _) _
   have kv : ∀ o, Below (wr.alloc o).heap.size (wr.alloc o) ((wr.alloc o).alloc o) := fun o => grow_alloc (Below.refl _ _) _
   have hm1 : (0 : Int) ≤ ((j % sh : Nat) : Int) := by omega
   have hm2 : ((j % sh : Nat) : Int) < (sh : Int) := by have := Nat.mod_lt j s0; omega
   by_cases hk : (j : Int) ∈ keysOf ss
   ·
    have HT : Hid (marks sh (setsIn (lkTo rs (keysOf ss) (j + 1))) = (marks sh (setsIn (lkTo rs (keysOf ss) j))).set (j % sh) true) := by show _ = _; rw [setsIn_on _ _ _ hk, marks_on]
    have hMl : (marks sh (setsIn (lkTo rs (keysOf ss) j))).length = sh := marks_len sh _
    have ho1 := owns_below hown.out (ku (.cells #[.slice ra rs.length rc, .slice ga gs.length gc, .slice sa ss.length sc] 79))
    have q3 := bool_cell ho1 (j % sh) (by rw [hMl]; exact Nat.mod_lt j s0)
    have q4 : (wr.alloc (.cells #[.slice ra rs.length rc, .slice ga gs.length gc, .slice sa ss.length sc] 79)).frozen? ⟨g, j % sh, none⟩ = false := ho1.frozenAt (j % sh)
    have R1 : Hid (((wr.alloc (.cells #[.slice ra rs.length rc, .slice ga gs.length gc, .slice sa ss.length sc] 79)).setCell ⟨g, j % sh, none⟩ (.bool true)).ownsRow (w.heap.size + 1) 4 1 (.slice (some ⟨g, 0, none⟩) sh sh) sh ((marks sh (setsIn (lkTo rs (keysOf ss) (j + 1)))).map Value.bool)) := by
     have h := (ho1.stored (j % sh) (.bool true)).1
     rw [HT.out, List.map_set]
     exact h
    have R2 : Hid (w1.grownBy ((wr.alloc (.cells #[.slice ra rs.length rc, .slice ga gs.length gc, .slice sa ss.length sc] 79)).setCell ⟨g, j % sh, none⟩ (.bool true)) (some g)) := (hgr.trans (World.grownBy_alloc wr _ _)).trans (grown_one _ g (j % sh) _)
    generalize (marks sh (setsIn (lkTo rs (keysOf ss) j))).getD (j % sh) false = old at *
    have v0 : (wr.alloc (.cells #[.slice ra rs.length rc, .slice ga gs.length gc, .slice sa ss.length sc] 79)).cell? ⟨w.heap.size, 0, none⟩ = some (.int .i64 sh) := ext_cell (ku (.cells #[.slice ra rs.length rc, .slice ga gs.length gc, .slice sa ss.length sc] 79)) t0
    have v1 : (wr.alloc (.cells #[.slice ra rs.length rc, .slice ga gs.length gc, .slice sa ss.length sc] 79)).cell? ⟨w.heap.size, 1, none⟩ = some (.slice (some ⟨b, off, none⟩) l.length lc) := ext_cell (ku (.cells #[.slice ra rs.length rc, .slice ga gs.length gc, .slice sa ss.length sc] 79)) t1
    have e0 := ext_cell (ku (.cells #[.slice ra rs.length rc, .slice ga gs.length gc, .slice sa ss.length sc] 79)) d0
    have e1 := ext_cell (ku (.cells #[.slice ra rs.length rc, .slice ga gs.length gc, .slice sa ss.length sc] 79)) d1
    have e2 := ext_cell (ku (.cells #[.slice ra rs.length rc, .slice ga gs.length gc, .slice sa ss.length sc] 79)) d2
    have hd : decide ((j : Int) ∈ keysOf ss) = true := by simp [hk]
    clear hown hgr hk hMl ho1 ku kv HT e0 e1 e2
    go_wp2_with fail
    refine (writes_any ra ga sa rc gc sc rs gs ss j _ HXR.out).mono ?_
    rintro e w' ⟨rfl, hw'⟩
    rw [hw', hd]
    clear hw' w' hd t0 t1 d0 d1 d2 HXR hB
    generalize wr.alloc (.cells #[.slice ra rs.length rc, .slice ga gs.length gc, .slice sa ss.length sc] 79) = V at *
    go_wp2
    go_roundw
    case rel => exact ⟨j + 1, by omega, by go_num, R1, R2.out⟩
    case measure => simp [intOf]; omega
   ·have HT : Hid (setsIn (lkTo rs (keysOf ss) (j + 1)) = setsIn (lkTo rs (keysOf ss) j)) := setsIn_off _ _ _ hk
    have R1 : Hid ((wr.alloc (.cells #[.slice ra rs.length rc, .slice ga gs.length gc, .slice sa ss.length sc] 79)).ownsRow (w.heap.size + 1) 4 1 (.slice (some ⟨g, 0, none⟩) sh sh) sh ((marks sh (setsIn (lkTo rs (keysOf ss) (j + 1)))).map Value.bool)) := by
     rw [HT.out]; exact owns_below hown.out (ku _)
    have R2 : Hid (w1.grownBy (wr.alloc (.cells #[.slice ra rs.length rc, .slice ga gs.length gc, .slice sa ss.length sc] 79)) (some g)) := hgr.trans (World.grownBy_alloc wr _ _)
    have hd : decide ((j : Int) ∈ keysOf ss) = false := by simp [hk]
    clear hown hgr hk ku kv HT
    go_wp2_with fail
    refine (writes_any ra ga sa rc gc sc rs gs ss j _ HXR.out).mono ?_
    rintro e w' ⟨rfl, hw'⟩
    rw [hw', hd]
    clear hw' w' hd t0 t1 d0 d1 d2 HXR hB
    generalize wr.alloc (.cells #[.slice ra rs.length rc, .slice ga gs.length gc, .slice sa ss.length sc] 79) = V at *
    go_wp2
    go_roundw
    case rel => exact ⟨j + 1, by omega, by go_num, R1, R2.out⟩
    case measure => simp [intOf]; omega
  ·have hjj : j = 8 := by omega
   have hfin : Hid (IsBools wr (some ⟨g, 0, none⟩) (marks sh (setsIn L))) := by
    have h := hown.out
    rw [hjj, ← HLK.out] at h
    exact bools_of_owns h
   clear hown hgr
   go_wp2
   go_ret
   exact ⟨some ⟨g, 0, none⟩, sh, rfl, hfin.out, hB.out⟩
end Go.Proofs.YtebjkmknhpgemaaGreat
