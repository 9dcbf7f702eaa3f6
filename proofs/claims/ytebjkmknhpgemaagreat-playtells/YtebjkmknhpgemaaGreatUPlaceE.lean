/-
  
  Conditions: those that each theorem states.
-/
import Derived.Test.YtebjkmknhpgemaaGreatUPlaceD
set_option maxRecDepth 100000
namespace Go.Proofs.YtebjkmknhpgemaaGreat
open Go.RowKit
theorem qB (rs ks : List Int) (j : Nat) (h : (j : Int) ∈ ks ∨ (j : Int) ∈ rs) : aM (aZ rs ks (j + 1)) = aM (aZ rs ks j) ++ [(j : Int)] := by
 rw [aZ, if_pos h]
 simp [aM]
theorem keysIn_off (rs ks : List Int) (j : Nat) (h : ¬ ((j : Int) ∈ ks ∨ (j : Int) ∈ rs)) : aM (aZ rs ks (j + 1)) = aM (aZ rs ks j) := by
 rw [aZ, if_neg h]
 simp [aM]
theorem setsIn_on (rs ks : List Int) (j : Nat) (h : (j : Int) ∈ ks) : aL (aZ rs ks (j + 1)) = aL (aZ rs ks j) ++ [(j : Int)] := by
 rw [aZ, if_pos (.inl h)]
 unfold aL
 rw [List.filter_append, List.map_append]
 simp [h]
theorem setsIn_off (rs ks : List Int) (j : Nat) (h : ¬ (j : Int) ∈ ks) : aL (aZ rs ks (j + 1)) = aL (aZ rs ks j) := by
 rw [aZ]
 unfold aL
 rw [List.filter_append, List.map_append]
 by_cases c : (j : Int) ∈ ks ∨ (j : Int) ∈ rs
 ·rw [if_pos c]; simp [h]
 ·rw [if_neg c]; simp
theorem oK (sh j : Nat) (ks : List Int) : aQ sh (ks ++ [(j : Int)]) = (aQ sh ks).set (j % sh) true := by rw [oJ]; simp
set_option maxHeartbeats 1000000 in
theorem kX (bs : List Bool) (a a' : Option Addr) (c c' : Nat) (w : World) (hl : bs.length ≤ 100) (h1 : IsBools w a bs) (h2 : IsBools w a' bs) :
  Calls Tryz.prog 58 #[.slice a bs.length c, .slice a' bs.length c'] w fun e w' => e = .returned (.bool true) ∧ Below w.heap.size w w' := by
 go_enter Tryz.func58, Tryz.ntmps58
 go_wp2
 go_loopw [5] (fun i wr => ∃ k : Nat, k ≤ bs.length ∧ i = .int .i64 k ∧ Below w.heap.size w wr) (fun i _ => bs.length - (intOf i).toNat)
 case atStart => exact ⟨0, Nat.zero_le _, rfl, Below.refl _ _⟩
 case round =>
  obtain ⟨k, hk, rfl, hnx⟩ := hrel
  by_cases hlt : k < bs.length
  ·obtain ⟨b, off, rfl, hb, hc⟩ := h1 k hlt
   obtain ⟨b', off', rfl, hb', hc'⟩ := h2 k hlt
   have d1 := aA hnx hc
   have d2 := aA hnx hc'
   have HX : Hid (Below w.heap.size w wr) := hnx
   generalize bs.getD k false = x at *
   clear h1 h2 hnx hc hc'
   have i1 : (0 : Int) ≤ (k : Int) := by omega
   have i2 : (k : Int) < (bs.length : Int) := by omega
   go_wp2_with fail
   go_quiet (fail)
   go_wp2
   go_roundw
   case rel => exact ⟨k + 1, by omega, by go_num, below_drewN HX.out _⟩
   case measure => simp [intOf]; omega
  ·clear h1 h2
   go_wp2
   go_ret
   exact ⟨rfl, hnx⟩
variable (la : Option Addr) (lc : Nat) (l : List TxA)
set_option maxHeartbeats 4000000 in
theorem iQ (sh k : Nat) (w : World) (hl : IsTxs w la l) (he : pnE sh l k = 0) :
  Calls Tryz.prog 53 #[.agg #[.int .i64 sh, .slice la l.length lc], .int .i64 k] w fun e w' => ∃ a c, e = .returned (.slice a (aQ sh (aM (aJ l k))).length c) ∧ IsBools w' a (aQ sh (aM (aJ l k))) ∧ Below w.heap.size w w' := by
 obtain ⟨i0, hi, hz0, hz1, hz2⟩ := info_parts Tryz.info4
 have hsh := aX (gP he).1
 have hkl : k < l.length := by have := kJ (gP he).2; omega
 have hl8 := dV hsh.2.2
 have s0 : 0 < sh := by omega
 have s4 : sh ≤ 4 := by omega
 have HM : Hid ((madeCells (Value.bool false).cells (sh * 1)).toList = (List.replicate sh false).map Value.bool) := kK sh s4
 rw [bY]
 obtain ⟨b, off, rfl, hb, c0, c1, c2, hx⟩ := hl k hkl
 have HX : Hid (IsX w (l.getD k x0)) := hx
 have HLK : Hid (aJ l k = aZ (l.getD k x0).rs (aI (l.getD k x0).ss) 8) := rfl
 clear hx hl he hsh
 generalize aJ l k = L at *
 generalize l.getD k x0 = x at *
 obtain ⟨ra, ga, sa, rc, gc, sc, rs, gs, ss⟩ := x
 simp only at c0 c1 c2 HLK
 have q0 : (w.alloc (.cells #[.int .i64 sh, .slice (some ⟨b, off, none⟩) l.length lc] 24)).cell? ⟨w.heap.size, 0, none⟩ = some (.int .i64 sh) := by simp
 have q1 : (w.alloc (.cells #[.int .i64 sh, .slice (some ⟨b, off, none⟩) l.length lc] 24)).cell? ⟨w.heap.size, 1, none⟩ = some (.slice (some ⟨b, off, none⟩) l.length lc) := by simp
 have hU : Below w.heap.size w (w.alloc (.cells #[.int .i64 sh, .slice (some ⟨b, off, none⟩) l.length lc] 24)) := aB (Below.refl _ _) _
 have hsz : w.heap.size + 1 = (w.alloc (.cells #[.int .i64 sh, .slice (some ⟨b, off, none⟩) l.length lc] 24)).heap.size := by simp
 go_enter Tryz.func53, Tryz.ntmps53
 go_wp2_with (first | (at_make; refine wpList_make_full _ rfl _ _ 65 rfl (w.heap.size + 1) 4 i0 (.bool false) 1 Tryz.underlying65 hi hz0 hz1 .i64 .i64 _ _ sh rfl rfl rfl rfl (by rw [hz2]; omega) (by unfold maxLen; omega) (by simp) ?_; intro w1 hown hgrow) | go_in)
 generalize w.alloc (.cells #[.int .i64 sh, .slice (some ⟨b, off, none⟩) l.length lc] 24) = W at *
 rw [HM.out] at hown
 have UW := Below.grown (Below.refl (w.heap.size + 1) W) hgrow (by omega) (fun j hj => by cases hj)
 have r0 : w1.cell? ⟨w.heap.size, 0, none⟩ = some (.int .i64 sh) := (UW.cell (p := ⟨w.heap.size, 0, none⟩) (by simp)).trans q0
 have r1 : w1.cell? ⟨w.heap.size, 1, none⟩ = some (.slice (some ⟨b, off, none⟩) l.length lc) := (UW.cell (p := ⟨w.heap.size, 1, none⟩) (by simp)).trans q1
 have hW1 : Hid (Below w.heap.size w w1) := hU.trans (UW.mono (by omega))
 have hg1 : W.heap.size < w1.heap.size := by
  have := (hown.lt W.heap.size (by simp [Value.ownBlock])).2
  exact this
 have hm0 : Hid (w1.ownsRow (w.heap.size + 1) 4 1 (.slice (some ⟨W.heap.size, 0, none⟩) sh sh) sh ((aQ sh (aM (aZ rs (aI ss) 0))).map Value.bool)) := hown
 have hgw0 : w.heap.size + 1 ≤ W.heap.size := by omega
 clear q0 q1 hU UW hown hgrow HM
 generalize W.heap.size = g at *
 have hgw : w.heap.size ≠ g := by omega
 go_wp2
 go_loopw [6] (fun i wr => ∃ j : Nat, j ≤ 8 ∧ i = .int .i64 j ∧ Hid (wr.ownsRow (w.heap.size + 1) 4 1 (.slice (some ⟨g, 0, none⟩) sh sh) sh ((aQ sh (aM (aZ rs (aI ss) j))).map Value.bool)) ∧ w1.grownBy wr (some g)) (fun i _ => 8 - (intOf i).toNat)
 case atStart => exact ⟨0, Nat.zero_le _, rfl, hm0, World.grownBy.refl _ _⟩
 case round =>
  obtain ⟨j, hj, rfl, hown, hgr⟩ := hrel
  clear hm0
  have hB : Hid (Below w.heap.size w wr) := hW1.out.trans ((Below.grown (Below.refl w.heap.size w1) hgr (by omega) (fun j hj => by injection hj with hj; omega)))
  by_cases hlt : j < 8
  ·have t0 : wr.cell? ⟨w.heap.size, 0, none⟩ = some (.int .i64 sh) := hgr.cell r0 (by simpa using hgw)
   have t1 : wr.cell? ⟨w.heap.size, 1, none⟩ = some (.slice (some ⟨b, off, none⟩) l.length lc) := hgr.cell r1 (by simpa using hgw)
   have d0 := aA hB.out c0
   have d1 := aA hB.out c1
   have d2 := aA hB.out c2
   have HXR : Hid (IsTx wr ra ga sa rs gs ss) := HX.out.t.below hB.out
   have ku : ∀ o, Below wr.heap.size wr (wr.alloc o) := fun o => aB (Below.refl _ _) _
   have kv : ∀ o, Below (wr.alloc o).heap.size (wr.alloc o) ((wr.alloc o).alloc o) := fun o => aB (Below.refl _ _) _
   have hm1 : (0 : Int) ≤ ((j % sh : Nat) : Int) := by omega
   have hm2 : ((j % sh : Nat) : Int) < (sh : Int) := by have := Nat.mod_lt j s0; omega
   by_cases hr : (j : Int) ∈ rs
   ·
    have HT : Hid (aQ sh (aM (aZ rs (aI ss) (j + 1))) = (aQ sh (aM (aZ rs (aI ss) j))).set (j % sh) true) := by show _ = _; rw [qB _ _ _ (.inr hr), oK]
    have hMl : (aQ sh (aM (aZ rs (aI ss) j))).length = sh := bY sh _
    have ho1 := bR hown.out (ku (.cells #[.slice ra rs.length rc, .slice ga gs.length gc, .slice sa ss.length sc] 79))
    have q3 := iM ho1 (j % sh) (by rw [hMl]; exact Nat.mod_lt j s0)
    have q4 : (wr.alloc (.cells #[.slice ra rs.length rc, .slice ga gs.length gc, .slice sa ss.length sc] 79)).frozen? ⟨g, j % sh, none⟩ = false := ho1.frozenAt (j % sh)
    have R1 : Hid (((wr.alloc (.cells #[.slice ra rs.length rc, .slice ga gs.length gc, .slice sa ss.length sc] 79)).setCell ⟨g, j % sh, none⟩ (.bool true)).ownsRow (w.heap.size + 1) 4 1 (.slice (some ⟨g, 0, none⟩) sh sh) sh ((aQ sh (aM (aZ rs (aI ss) (j + 1)))).map Value.bool)) := by
     have h := (ho1.stored (j % sh) (.bool true)).1
     rw [HT.out, List.map_set]
     exact h
    have R2 : Hid (w1.grownBy ((wr.alloc (.cells #[.slice ra rs.length rc, .slice ga gs.length gc, .slice sa ss.length sc] 79)).setCell ⟨g, j % sh, none⟩ (.bool true)) (some g)) := (hgr.trans (World.grownBy_alloc wr _ _)).trans (gM _ g (j % sh) _)
    generalize (aQ sh (aM (aZ rs (aI ss) j))).getD (j % sh) false = old at *
    have v0 : (wr.alloc (.cells #[.slice ra rs.length rc, .slice ga gs.length gc, .slice sa ss.length sc] 79)).cell? ⟨w.heap.size, 0, none⟩ = some (.int .i64 sh) := aA (ku (.cells #[.slice ra rs.length rc, .slice ga gs.length gc, .slice sa ss.length sc] 79)) t0
    have v1 : (wr.alloc (.cells #[.slice ra rs.length rc, .slice ga gs.length gc, .slice sa ss.length sc] 79)).cell? ⟨w.heap.size, 1, none⟩ = some (.slice (some ⟨b, off, none⟩) l.length lc) := aA (ku (.cells #[.slice ra rs.length rc, .slice ga gs.length gc, .slice sa ss.length sc] 79)) t1
    have e0 := aA (ku (.cells #[.slice ra rs.length rc, .slice ga gs.length gc, .slice sa ss.length sc] 79)) d0
    have e1 := aA (ku (.cells #[.slice ra rs.length rc, .slice ga gs.length gc, .slice sa ss.length sc] 79)) d1
    have e2 := aA (ku (.cells #[.slice ra rs.length rc, .slice ga gs.length gc, .slice sa ss.length sc] 79)) d2
    have hd : decide ((j : Int) ∈ rs) = true := by simp [hr]
    clear hown hgr hr hMl ho1 ku kv HT
    go_wp2_with fail
    refine (fJ ra ga sa rc gc sc rs gs ss j _ HXR.out).mono ?_
    rintro e w' ⟨rfl, hw'⟩
    rw [hw', hd]
    clear hw' w' hd t0 t1 d0 d1 d2 HXR hB
    generalize wr.alloc (.cells #[.slice ra rs.length rc, .slice ga gs.length gc, .slice sa ss.length sc] 79) = V at *
    go_wp2
    go_roundw
    case rel => exact ⟨j + 1, by omega, by go_num, R1, R2.out⟩
    case measure => simp [intOf]; omega
   ·
    have hd : decide ((j : Int) ∈ rs) = false := by simp [hr]
    have HX1 : Hid (IsTx (wr.alloc (.cells #[.slice ra rs.length rc, .slice ga gs.length gc, .slice sa ss.length sc] 79)) ra ga sa rs gs ss) := HXR.out.below (ku _)
    by_cases hk : (j : Int) ∈ aI ss
    ·
     have HT : Hid (aQ sh (aM (aZ rs (aI ss) (j + 1))) = (aQ sh (aM (aZ rs (aI ss) j))).set (j % sh) true) := by show _ = _; rw [qB _ _ _ (.inl hk), oK]
     have hMl : (aQ sh (aM (aZ rs (aI ss) j))).length = sh := bY sh _
     have ho1 := bR (bR hown.out (ku (.cells #[.slice ra rs.length rc, .slice ga gs.length gc, .slice sa ss.length sc] 79))) (kv (.cells #[.slice ra rs.length rc, .slice ga gs.length gc, .slice sa ss.length sc] 79))
     have q3 := iM ho1 (j % sh) (by rw [hMl]; exact Nat.mod_lt j s0)
     have q4 : ((wr.alloc (.cells #[.slice ra rs.length rc, .slice ga gs.length gc, .slice sa ss.length sc] 79)).alloc (.cells #[.slice ra rs.length rc, .slice ga gs.length gc, .slice sa ss.length sc] 79)).frozen? ⟨g, j % sh, none⟩ = false := ho1.frozenAt (j % sh)
     have R1 : Hid ((((wr.alloc (.cells #[.slice ra rs.length rc, .slice ga gs.length gc, .slice sa ss.length sc] 79)).alloc (.cells #[.slice ra rs.length rc, .slice ga gs.length gc, .slice sa ss.length sc] 79)).setCell ⟨g, j % sh, none⟩ (.bool true)).ownsRow (w.heap.size + 1) 4 1 (.slice (some ⟨g, 0, none⟩) sh sh) sh ((aQ sh (aM (aZ rs (aI ss) (j + 1)))).map Value.bool)) := by
      have h := (ho1.stored (j % sh) (.bool true)).1
      rw [HT.out, List.map_set]
      exact h
     have R2 : Hid (w1.grownBy (((wr.alloc (.cells #[.slice ra rs.length rc, .slice ga gs.length gc, .slice sa ss.length sc] 79)).alloc (.cells #[.slice ra rs.length rc, .slice ga gs.length gc, .slice sa ss.length sc] 79)).setCell ⟨g, j % sh, none⟩ (.bool true)) (some g)) := (hgr.trans ((World.grownBy_alloc wr _ _).trans (World.grownBy_alloc _ _ _))).trans (gM _ g (j % sh) _)
     generalize (aQ sh (aM (aZ rs (aI ss) j))).getD (j % sh) false = old at *
     have hd2 : decide ((j : Int) ∈ aI ss) = true := by simp [hk]
     have v0 : (wr.alloc (.cells #[.slice ra rs.length rc, .slice ga gs.length gc, .slice sa ss.length sc] 79)).cell? ⟨w.heap.size, 0, none⟩ = some (.int .i64 sh) := aA (ku (.cells #[.slice ra rs.length rc, .slice ga gs.length gc, .slice sa ss.length sc] 79)) t0
     have v1 : (wr.alloc (.cells #[.slice ra rs.length rc, .slice ga gs.length gc, .slice sa ss.length sc] 79)).cell? ⟨w.heap.size, 1, none⟩ = some (.slice (some ⟨b, off, none⟩) l.length lc) := aA (ku (.cells #[.slice ra rs.length rc, .slice ga gs.length gc, .slice sa ss.length sc] 79)) t1
     have e0 := aA (ku (.cells #[.slice ra rs.length rc, .slice ga gs.length gc, .slice sa ss.length sc] 79)) d0
     have e1 := aA (ku (.cells #[.slice ra rs.length rc, .slice ga gs.length gc, .slice sa ss.length sc] 79)) d1
     have e2 := aA (ku (.cells #[.slice ra rs.length rc, .slice ga gs.length gc, .slice sa ss.length sc] 79)) d2
     have f0 := aA (kv (.cells #[.slice ra rs.length rc, .slice ga gs.length gc, .slice sa ss.length sc] 79)) v0
     have f1 := aA (kv (.cells #[.slice ra rs.length rc, .slice ga gs.length gc, .slice sa ss.length sc] 79)) v1
     clear hown hgr hr hk hMl ho1 ku kv HT
     go_wp2_with fail
     refine (fJ ra ga sa rc gc sc rs gs ss j _ HXR.out).mono ?_
     rintro e w' ⟨rfl, hw'⟩
     rw [hw', hd]
     clear hw' w' hd t0 t1 d0 d1 d2 HXR hB
     go_wp2_with fail
     refine (cL ra ga sa rc gc sc rs gs ss j _ HX1.out).mono ?_
     rintro e w' ⟨rfl, hw'⟩
     rw [hw', hd2]
     clear hw' w' hd2 v0 v1 e0 e1 e2 HX1
     generalize (wr.alloc (.cells #[.slice ra rs.length rc, .slice ga gs.length gc, .slice sa ss.length sc] 79)).alloc (.cells #[.slice ra rs.length rc, .slice ga gs.length gc, .slice sa ss.length sc] 79) = V at *
     go_wp2
     go_roundw
     case rel => exact ⟨j + 1, by omega, by go_num, R1, R2.out⟩
     case measure => simp [intOf]; omega
    ·have HT : Hid (aM (aZ rs (aI ss) (j + 1)) = aM (aZ rs (aI ss) j)) := keysIn_off _ _ _ (fun h => h.elim hk hr)
     have R1 : Hid (((wr.alloc (.cells #[.slice ra rs.length rc, .slice ga gs.length gc, .slice sa ss.length sc] 79)).alloc (.cells #[.slice ra rs.length rc, .slice ga gs.length gc, .slice sa ss.length sc] 79)).ownsRow (w.heap.size + 1) 4 1 (.slice (some ⟨g, 0, none⟩) sh sh) sh ((aQ sh (aM (aZ rs (aI ss) (j + 1)))).map Value.bool)) := by
      rw [HT.out]; exact bR (bR hown.out (ku _)) (kv _)
     have R2 : Hid (w1.grownBy ((wr.alloc (.cells #[.slice ra rs.length rc, .slice ga gs.length gc, .slice sa ss.length sc] 79)).alloc (.cells #[.slice ra rs.length rc, .slice ga gs.length gc, .slice sa ss.length sc] 79)) (some g)) := hgr.trans ((World.grownBy_alloc wr _ _).trans (World.grownBy_alloc _ _ _))
     have hd2 : decide ((j : Int) ∈ aI ss) = false := by simp [hk]
     have v0 : (wr.alloc (.cells #[.slice ra rs.length rc, .slice ga gs.length gc, .slice sa ss.length sc] 79)).cell? ⟨w.heap.size, 0, none⟩ = some (.int .i64 sh) := aA (ku (.cells #[.slice ra rs.length rc, .slice ga gs.length gc, .slice sa ss.length sc] 79)) t0
     have v1 : (wr.alloc (.cells #[.slice ra rs.length rc, .slice ga gs.length gc, .slice sa ss.length sc] 79)).cell? ⟨w.heap.size, 1, none⟩ = some (.slice (some ⟨b, off, none⟩) l.length lc) := aA (ku (.cells #[.slice ra rs.length rc, .slice ga gs.length gc, .slice sa ss.length sc] 79)) t1
     have e0 := aA (ku (.cells #[.slice ra rs.length rc, .slice ga gs.length gc, .slice sa ss.length sc] 79)) d0
     have e1 := aA (ku (.cells #[.slice ra rs.length rc, .slice ga gs.length gc, .slice sa ss.length sc] 79)) d1
     have e2 := aA (ku (.cells #[.slice ra rs.length rc, .slice ga gs.length gc, .slice sa ss.length sc] 79)) d2
     clear hown hgr hr hk ku kv HT
     go_wp2_with fail
     refine (fJ ra ga sa rc gc sc rs gs ss j _ HXR.out).mono ?_
     rintro e w' ⟨rfl, hw'⟩
     rw [hw', hd]
     clear hw' w' hd t0 t1 d0 d1 d2 HXR hB
     go_wp2_with fail
     refine (cL ra ga sa rc gc sc rs gs ss j _ HX1.out).mono ?_
     rintro e w' ⟨rfl, hw'⟩
     rw [hw', hd2]
     clear hw' w' hd2 v0 v1 e0 e1 e2 HX1
     generalize (wr.alloc (.cells #[.slice ra rs.length rc, .slice ga gs.length gc, .slice sa ss.length sc] 79)).alloc (.cells #[.slice ra rs.length rc, .slice ga gs.length gc, .slice sa ss.length sc] 79) = V at *
     go_wp2
     go_roundw
     case rel => exact ⟨j + 1, by omega, by go_num, R1, R2.out⟩
     case measure => simp [intOf]; omega
  ·have hjj : j = 8 := by omega
   have hfin : Hid (IsBools wr (some ⟨g, 0, none⟩) (aQ sh (aM L))) := by
    have h := hown.out
    rw [hjj, ← HLK.out] at h
    exact kA h
   clear hown hgr
   go_wp2
   go_ret
   exact ⟨some ⟨g, 0, none⟩, sh, rfl, hfin.out, hB.out⟩
set_option maxHeartbeats 4000000 in
theorem gK (sh k : Nat) (w : World) (hl : IsTxs w la l) (he : pnE sh l k = 0) :
  Calls Tryz.prog 54 #[.agg #[.int .i64 sh, .slice la l.length lc], .int .i64 k] w fun e w' => ∃ a c, e = .returned (.slice a (aQ sh (aL (aJ l k))).length c) ∧ IsBools w' a (aQ sh (aL (aJ l k))) ∧ Below w.heap.size w w' := by
 obtain ⟨i0, hi, hz0, hz1, hz2⟩ := info_parts Tryz.info4
 have hsh := aX (gP he).1
 have hkl : k < l.length := by have := kJ (gP he).2; omega
 have hl8 := dV hsh.2.2
 have s0 : 0 < sh := by omega
 have s4 : sh ≤ 4 := by omega
 have HM : Hid ((madeCells (Value.bool false).cells (sh * 1)).toList = (List.replicate sh false).map Value.bool) := kK sh s4
 rw [bY]
 obtain ⟨b, off, rfl, hb, c0, c1, c2, hx⟩ := hl k hkl
 have HX : Hid (IsX w (l.getD k x0)) := hx
 have HLK : Hid (aJ l k = aZ (l.getD k x0).rs (aI (l.getD k x0).ss) 8) := rfl
 clear hx hl he hsh
 generalize aJ l k = L at *
 generalize l.getD k x0 = x at *
 obtain ⟨ra, ga, sa, rc, gc, sc, rs, gs, ss⟩ := x
 simp only at c0 c1 c2 HLK
 have q0 : (w.alloc (.cells #[.int .i64 sh, .slice (some ⟨b, off, none⟩) l.length lc] 24)).cell? ⟨w.heap.size, 0, none⟩ = some (.int .i64 sh) := by simp
 have q1 : (w.alloc (.cells #[.int .i64 sh, .slice (some ⟨b, off, none⟩) l.length lc] 24)).cell? ⟨w.heap.size, 1, none⟩ = some (.slice (some ⟨b, off, none⟩) l.length lc) := by simp
 have hU : Below w.heap.size w (w.alloc (.cells #[.int .i64 sh, .slice (some ⟨b, off, none⟩) l.length lc] 24)) := aB (Below.refl _ _) _
 have hsz : w.heap.size + 1 = (w.alloc (.cells #[.int .i64 sh, .slice (some ⟨b, off, none⟩) l.length lc] 24)).heap.size := by simp
 go_enter Tryz.func54, Tryz.ntmps54
 go_wp2_with (first | (at_make; refine wpList_make_full _ rfl _ _ 65 rfl (w.heap.size + 1) 4 i0 (.bool false) 1 Tryz.underlying65 hi hz0 hz1 .i64 .i64 _ _ sh rfl rfl rfl rfl (by rw [hz2]; omega) (by unfold maxLen; omega) (by simp) ?_; intro w1 hown hgrow) | go_in)
 generalize w.alloc (.cells #[.int .i64 sh, .slice (some ⟨b, off, none⟩) l.length lc] 24) = W at *
 rw [HM.out] at hown
 have UW := Below.grown (Below.refl (w.heap.size + 1) W) hgrow (by omega) (fun j hj => by cases hj)
 have r0 : w1.cell? ⟨w.heap.size, 0, none⟩ = some (.int .i64 sh) := (UW.cell (p := ⟨w.heap.size, 0, none⟩) (by simp)).trans q0
 have r1 : w1.cell? ⟨w.heap.size, 1, none⟩ = some (.slice (some ⟨b, off, none⟩) l.length lc) := (UW.cell (p := ⟨w.heap.size, 1, none⟩) (by simp)).trans q1
 have hW1 : Hid (Below w.heap.size w w1) := hU.trans (UW.mono (by omega))
 have hg1 : W.heap.size < w1.heap.size := by
  have := (hown.lt W.heap.size (by simp [Value.ownBlock])).2
  exact this
 have hm0 : Hid (w1.ownsRow (w.heap.size + 1) 4 1 (.slice (some ⟨W.heap.size, 0, none⟩) sh sh) sh ((aQ sh (aL (aZ rs (aI ss) 0))).map Value.bool)) := hown
 have hgw0 : w.heap.size + 1 ≤ W.heap.size := by omega
 clear q0 q1 hU UW hown hgrow HM
 generalize W.heap.size = g at *
 have hgw : w.heap.size ≠ g := by omega
 go_wp2
 go_loopw [6] (fun i wr => ∃ j : Nat, j ≤ 8 ∧ i = .int .i64 j ∧ Hid (wr.ownsRow (w.heap.size + 1) 4 1 (.slice (some ⟨g, 0, none⟩) sh sh) sh ((aQ sh (aL (aZ rs (aI ss) j))).map Value.bool)) ∧ w1.grownBy wr (some g)) (fun i _ => 8 - (intOf i).toNat)
 case atStart => exact ⟨0, Nat.zero_le _, rfl, hm0, World.grownBy.refl _ _⟩
 case round =>
  obtain ⟨j, hj, rfl, hown, hgr⟩ := hrel
  clear hm0
  have hB : Hid (Below w.heap.size w wr) := hW1.out.trans ((Below.grown (Below.refl w.heap.size w1) hgr (by omega) (fun j hj => by injection hj with hj; omega)))
  by_cases hlt : j < 8
  ·have t0 : wr.cell? ⟨w.heap.size, 0, none⟩ = some (.int .i64 sh) := hgr.cell r0 (by simpa using hgw)
   have t1 : wr.cell? ⟨w.heap.size, 1, none⟩ = some (.slice (some ⟨b, off, none⟩) l.length lc) := hgr.cell r1 (by simpa using hgw)
   have d0 := aA hB.out c0
   have d1 := aA hB.out c1
   have d2 := aA hB.out c2
   have HXR : Hid (IsTx wr ra ga sa rs gs ss) := HX.out.t.below hB.out
   have ku : ∀ o, Below wr.heap.size wr (wr.alloc o) := fun o => aB (Below.refl _ _) _
   have kv : ∀ o, Below (wr.alloc o).heap.size (wr.alloc o) ((wr.alloc o).alloc o) := fun o => aB (Below.refl _ _) _
   have hm1 : (0 : Int) ≤ ((j % sh : Nat) : Int) := by omega
   have hm2 : ((j % sh : Nat) : Int) < (sh : Int) := by have := Nat.mod_lt j s0; omega
   by_cases hk : (j : Int) ∈ aI ss
   ·
    have HT : Hid (aQ sh (aL (aZ rs (aI ss) (j + 1))) = (aQ sh (aL (aZ rs (aI ss) j))).set (j % sh) true) := by show _ = _; rw [setsIn_on _ _ _ hk, oK]
    have hMl : (aQ sh (aL (aZ rs (aI ss) j))).length = sh := bY sh _
    have ho1 := bR hown.out (ku (.cells #[.slice ra rs.length rc, .slice ga gs.length gc, .slice sa ss.length sc] 79))
    have q3 := iM ho1 (j % sh) (by rw [hMl]; exact Nat.mod_lt j s0)
    have q4 : (wr.alloc (.cells #[.slice ra rs.length rc, .slice ga gs.length gc, .slice sa ss.length sc] 79)).frozen? ⟨g, j % sh, none⟩ = false := ho1.frozenAt (j % sh)
    have R1 : Hid (((wr.alloc (.cells #[.slice ra rs.length rc, .slice ga gs.length gc, .slice sa ss.length sc] 79)).setCell ⟨g, j % sh, none⟩ (.bool true)).ownsRow (w.heap.size + 1) 4 1 (.slice (some ⟨g, 0, none⟩) sh sh) sh ((aQ sh (aL (aZ rs (aI ss) (j + 1)))).map Value.bool)) := by
     have h := (ho1.stored (j % sh) (.bool true)).1
     rw [HT.out, List.map_set]
     exact h
    have R2 : Hid (w1.grownBy ((wr.alloc (.cells #[.slice ra rs.length rc, .slice ga gs.length gc, .slice sa ss.length sc] 79)).setCell ⟨g, j % sh, none⟩ (.bool true)) (some g)) := (hgr.trans (World.grownBy_alloc wr _ _)).trans (gM _ g (j % sh) _)
    generalize (aQ sh (aL (aZ rs (aI ss) j))).getD (j % sh) false = old at *
    have v0 : (wr.alloc (.cells #[.slice ra rs.length rc, .slice ga gs.length gc, .slice sa ss.length sc] 79)).cell? ⟨w.heap.size, 0, none⟩ = some (.int .i64 sh) := aA (ku (.cells #[.slice ra rs.length rc, .slice ga gs.length gc, .slice sa ss.length sc] 79)) t0
    have v1 : (wr.alloc (.cells #[.slice ra rs.length rc, .slice ga gs.length gc, .slice sa ss.length sc] 79)).cell? ⟨w.heap.size, 1, none⟩ = some (.slice (some ⟨b, off, none⟩) l.length lc) := aA (ku (.cells #[.slice ra rs.length rc, .slice ga gs.length gc, .slice sa ss.length sc] 79)) t1
    have e0 := aA (ku (.cells #[.slice ra rs.length rc, .slice ga gs.length gc, .slice sa ss.length sc] 79)) d0
    have e1 := aA (ku (.cells #[.slice ra rs.length rc, .slice ga gs.length gc, .slice sa ss.length sc] 79)) d1
    have e2 := aA (ku (.cells #[.slice ra rs.length rc, .slice ga gs.length gc, .slice sa ss.length sc] 79)) d2
    have hd : decide ((j : Int) ∈ aI ss) = true := by simp [hk]
    clear hown hgr hk hMl ho1 ku kv HT e0 e1 e2
    go_wp2_with fail
    refine (cL ra ga sa rc gc sc rs gs ss j _ HXR.out).mono ?_
    rintro e w' ⟨rfl, hw'⟩
    rw [hw', hd]
    clear hw' w' hd t0 t1 d0 d1 d2 HXR hB
    generalize wr.alloc (.cells #[.slice ra rs.length rc, .slice ga gs.length gc, .slice sa ss.length sc] 79) = V at *
    go_wp2
    go_roundw
    case rel => exact ⟨j + 1, by omega, by go_num, R1, R2.out⟩
    case measure => simp [intOf]; omega
   ·have HT : Hid (aL (aZ rs (aI ss) (j + 1)) = aL (aZ rs (aI ss) j)) := setsIn_off _ _ _ hk
    have R1 : Hid ((wr.alloc (.cells #[.slice ra rs.length rc, .slice ga gs.length gc, .slice sa ss.length sc] 79)).ownsRow (w.heap.size + 1) 4 1 (.slice (some ⟨g, 0, none⟩) sh sh) sh ((aQ sh (aL (aZ rs (aI ss) (j + 1)))).map Value.bool)) := by
     rw [HT.out]; exact bR hown.out (ku _)
    have R2 : Hid (w1.grownBy (wr.alloc (.cells #[.slice ra rs.length rc, .slice ga gs.length gc, .slice sa ss.length sc] 79)) (some g)) := hgr.trans (World.grownBy_alloc wr _ _)
    have hd : decide ((j : Int) ∈ aI ss) = false := by simp [hk]
    clear hown hgr hk ku kv HT
    go_wp2_with fail
    refine (cL ra ga sa rc gc sc rs gs ss j _ HXR.out).mono ?_
    rintro e w' ⟨rfl, hw'⟩
    rw [hw', hd]
    clear hw' w' hd t0 t1 d0 d1 d2 HXR hB
    generalize wr.alloc (.cells #[.slice ra rs.length rc, .slice ga gs.length gc, .slice sa ss.length sc] 79) = V at *
    go_wp2
    go_roundw
    case rel => exact ⟨j + 1, by omega, by go_num, R1, R2.out⟩
    case measure => simp [intOf]; omega
  ·have hjj : j = 8 := by omega
   have hfin : Hid (IsBools wr (some ⟨g, 0, none⟩) (aQ sh (aL L))) := by
    have h := hown.out
    rw [hjj, ← HLK.out] at h
    exact kA h
   clear hown hgr
   go_wp2
   go_ret
   exact ⟨some ⟨g, 0, none⟩, sh, rfl, hfin.out, hB.out⟩
end Go.Proofs.YtebjkmknhpgemaaGreat
