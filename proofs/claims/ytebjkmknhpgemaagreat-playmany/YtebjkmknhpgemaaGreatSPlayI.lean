/-
  
  Conditions: those that each theorem states.
-/
import Derived.Test.YtebjkmknhpgemaaGreatSPlayH
set_option maxRecDepth 100000
namespace Go.Proofs.YtebjkmknhpgemaaGreat
open Go.RowKit
theorem cntTo (sh : Nat) (l : List TxA) (k : Nat) : c2 (fun n k => ptB sh (gX l n) k) sh (k + 1) + c2 (fun n k => acB sh (gX l n) k) sh (k + 1) = c2 (fun n k => ptB sh (gX l n) k) sh k + c2 (fun n k => acB sh (gX l n) k) sh k + (c1 (fun i => ptB sh (gX l k) i) sh + c1 (fun i => acB sh (gX l k) i) sh) := by
 rw [c2, c2]
 omega
theorem cntStep (f g : Nat → Bool) (i : Nat) : c1 f (i + 1) + c1 g (i + 1) = c1 f i + c1 g i + ((if f i then 1 else 0) + (if g i then 1 else 0)) := by
 rw [c1, c1]
 omega
variable (la : Option Addr) (lc : Nat) (l : List TxA) (sa : Option Addr) (sc : Nat) (s : List Int) (pa : Option Addr) (pc : Nat) (pk : List Int) (qa : Option Addr) (qc : Nat) (qk : List Int)
set_option maxHeartbeats 4000000 in
theorem playMany_bad (m : Int) (w : World) (hl : IsTxs w la l) (hs : IsInts w sa s) (hp : IsInts w pa pk) (hpw : ∀ i, i < pk.length → (Lit.int .i64 (pk.getD i 0)).wf = true) (hpc : pk.length ≤ pc) (hq : IsInts w qa qk) (hqw : ∀ i, i < qk.length → (Lit.int .i64 (qk.getD i 0)).wf = true) (hqc : qk.length ≤ qc) (hE : ¬ (playE m l s pk = 0 ∧ playE m l s qk = 0)) :
  Calls Tryz.prog 11 #[.agg #[.int .i64 m, .slice la l.length lc], .slice sa s.length sc, .slice pa pk.length pc, .slice qa qk.length qc] w fun e w' => e = .returned (.bool true) ∧ Below w.heap.size w w' := by
 obtain ⟨W, hWe⟩ : ∃ W : World, W = (w.alloc (.cells #[.int .i64 m, .slice la l.length lc] 24)) := ⟨_, rfl⟩
 have gW : Hid (Below w.heap.size w W) := by subst hWe; exact grow_alloc (Below.refl _ _) _
 have p0 : W.cell? ⟨w.heap.size, 0, none⟩ = some (.int .i64 m) := by subst hWe; exact at_new _ _ 24 _ 0 _ rfl rfl
 have p1 : W.cell? ⟨w.heap.size, 1, none⟩ = some (.slice la l.length lc) := by subst hWe; exact at_new _ _ 24 _ 1 _ rfl rfl
 have C1 : Hid (∀ w', Below W.heap.size W w' → Calls Tryz.prog 30 #[.agg #[.int .i64 m, .slice la l.length lc], .slice sa s.length sc, .slice pa pk.length pc] w' fun e w'' => ∃ q : Q4, e = .returned (.tuple #[.agg #[.slice q.sa q.sn q.sc, .slice q.ra q.rn q.rc, .slice q.wa q.wn q.tc, .slice q.va q.vn q.vc], .int .i64 (playN m l s pk : Nat), .int .i64 (playE m l s pk)]) ∧ Below w'.heap.size w' w'') := fun w' hb => (play_any la lc l sa sc s pa pc pk m w' ((hl.below gW.out).below hb) ((hs.below gW.out).below hb) ((hp.below gW.out).below hb) hpc hpw).mono (by rintro e w'' ⟨q, rfl, _, hb⟩; exact ⟨q, rfl, hb⟩)
 have C2 : Hid (∀ w', Below W.heap.size W w' → Calls Tryz.prog 30 #[.agg #[.int .i64 m, .slice la l.length lc], .slice sa s.length sc, .slice qa qk.length qc] w' fun e w'' => ∃ q : Q4, e = .returned (.tuple #[.agg #[.slice q.sa q.sn q.sc, .slice q.ra q.rn q.rc, .slice q.wa q.wn q.tc, .slice q.va q.vn q.vc], .int .i64 (playN m l s qk : Nat), .int .i64 (playE m l s qk)]) ∧ Below w'.heap.size w' w'') := fun w' hb => (play_any la lc l sa sc s qa qc qk m w' ((hl.below gW.out).below hb) ((hs.below gW.out).below hb) ((hq.below gW.out).below hb) hqc hqw).mono (by rintro e w'' ⟨q, rfl, _, hb⟩; exact ⟨q, rfl, hb⟩)
 clear hl hs hp hpw hpc hq hqw hqc
 generalize playN m l s pk = N1 at *
 generalize playN m l s qk = N2 at *
 generalize playE m l s pk = E1 at *
 generalize playE m l s qk = E2 at *
 have hb : ((!(E1 == 0)) || (!(E2 == 0))) = true := by
  by_cases c1 : E1 = 0
  ·by_cases c2 : E2 = 0
   ·exact absurd ⟨c1, c2⟩ hE
   ·simp [c2]
  ·simp [c1]
 have HB : Hid (((!(E1 == 0)) || (!(E2 == 0))) = true) := hb
 clear hE hb
 have HWe : Hid (W = _) := hWe
 clear hWe
 go_enter Tryz.func11, Tryz.ntmps11
 go_upto_region 1 with fail
 rw [← HWe.out]
 clear HWe
 go_wp2_with fail
 refine (C1.out _ (Below.refl _ _)).mono ?_
 rintro e w1 ⟨q, rfl, hb1⟩
 have gA : Below w1.heap.size w1 (w1.alloc (.cells #[.slice q.sa q.sn q.sc, .slice q.ra q.rn q.rc, .slice q.wa q.wn q.tc, .slice q.va q.vn q.vc] 29)) := grow_alloc (Below.refl _ _) _
 have gV : Hid (Below W.heap.size W (w1.alloc (.cells #[.slice q.sa q.sn q.sc, .slice q.ra q.rn q.rc, .slice q.wa q.wn q.tc, .slice q.va q.vn q.vc] 29))) := grow_trans hb1 gA
 have p0 := ext_cell gV.out p0
 have p1 := ext_cell gV.out p1
 clear hb1 gA C1
 go_upto_region 2 with fail
 generalize (w1.alloc (.cells #[.slice q.sa q.sn q.sc, .slice q.ra q.rn q.rc, .slice q.wa q.wn q.tc, .slice q.va q.vn q.vc] 29)) = V at *
 go_wp2_with fail
 refine (C2.out _ gV.out).mono ?_
 rintro e w2 ⟨y, rfl, hb2⟩
 have gA : Below w2.heap.size w2 (w2.alloc (.cells #[.slice y.sa y.sn y.sc, .slice y.ra y.rn y.rc, .slice y.wa y.wn y.tc, .slice y.va y.vn y.vc] 29)) := grow_alloc (Below.refl _ _) _
 have gU : Hid (Below w.heap.size w (w2.alloc (.cells #[.slice y.sa y.sn y.sc, .slice y.ra y.rn y.rc, .slice y.wa y.wn y.tc, .slice y.va y.vn y.vc] 29))) := grow_trans gW.out (grow_trans gV.out (grow_trans hb2 gA))
 clear hb2 gA C2 p0 p1
 go_upto_region 3 with fail
 generalize (w2.alloc (.cells #[.slice y.sa y.sn y.sc, .slice y.ra y.rn y.rc, .slice y.wa y.wn y.tc, .slice y.va y.vn y.vc] 29)) = U at *
 have HB := HB.out
 cases h1 : (E1 == 0)
 ·have n1 : ¬ E1 = 0 := by simpa using h1
  clear h1 HB
  go_wp2_with fail
  refine (playBegun_any _).mono ?_
  rintro e w4 ⟨rfl, hb4⟩
  have B4 : Hid (Below w.heap.size w w4) := grow_trans gU.out hb4
  clear hb4
  go_wp2
  go_ret
  exact ⟨rfl, B4.out⟩
 ·have n1 : E1 = 0 := by simpa using h1
  subst n1
  have n2 : ¬ E2 = 0 := by simpa using HB
  clear h1 HB
  go_wp2_with fail
  refine (playBegun_any _).mono ?_
  rintro e w4 ⟨rfl, hb4⟩
  have B4 : Hid (Below w.heap.size w w4) := grow_trans gU.out hb4
  clear hb4
  go_wp2
  go_ret
  exact ⟨rfl, B4.out⟩
set_option maxHeartbeats 4000000 in
theorem playMany_ok (sh : Nat) (w : World) (hl : IsTxs w la l) (hs : IsInts w sa s) (hp : IsInts w pa pk) (hpw : ∀ i, i < pk.length → (Lit.int .i64 (pk.getD i 0)).wf = true) (hpc : pk.length ≤ pc) (hq : IsInts w qa qk) (hqw : ∀ i, i < qk.length → (Lit.int .i64 (qk.getD i 0)).wf = true) (hqc : qk.length ≤ qc) (hE : playE (sh : Int) l s pk = 0) (hE2 : playE (sh : Int) l s qk = 0) :
  Calls Tryz.prog 11 #[.agg #[.int .i64 (sh : Int), .slice la l.length lc], .slice sa s.length sc, .slice pa pk.length pc, .slice qa qk.length qc] w fun e w' => e = .returned (.bool true) ∧ Below w.heap.size w w' := by
 obtain ⟨W, hWe⟩ : ∃ W : World, W = (w.alloc (.cells #[.int .i64 (sh : Int), .slice la l.length lc] 24)) := ⟨_, rfl⟩
 have gW : Hid (Below w.heap.size w W) := by subst hWe; exact grow_alloc (Below.refl _ _) _
 have p0 : W.cell? ⟨w.heap.size, 0, none⟩ = some (.int .i64 (sh : Int)) := by subst hWe; exact at_new _ _ 24 _ 0 _ rfl rfl
 have p1 : W.cell? ⟨w.heap.size, 1, none⟩ = some (.slice la l.length lc) := by subst hWe; exact at_new _ _ 24 _ 1 _ rfl rfl
 have C1 : Hid (∀ w', Below W.heap.size W w' → Calls Tryz.prog 30 #[.agg #[.int .i64 (sh : Int), .slice la l.length lc], .slice sa s.length sc, .slice pa pk.length pc] w' fun e w'' => ∃ q : Q4, e = .returned (.tuple #[.agg #[.slice q.sa q.sn q.sc, .slice q.ra q.rn q.rc, .slice q.wa q.wn q.tc, .slice q.va q.vn q.vc], .int .i64 (playN (sh : Int) l s pk : Nat), .int .i64 (playE (sh : Int) l s pk)]) ∧ Below w'.heap.size w' w'') := fun w' hb => (play_any la lc l sa sc s pa pc pk (sh : Int) w' ((hl.below gW.out).below hb) ((hs.below gW.out).below hb) ((hp.below gW.out).below hb) hpc hpw).mono (by rintro e w'' ⟨q, rfl, _, hb⟩; exact ⟨q, rfl, hb⟩)
 have C2 : Hid (∀ w', Below W.heap.size W w' → Calls Tryz.prog 30 #[.agg #[.int .i64 (sh : Int), .slice la l.length lc], .slice sa s.length sc, .slice qa qk.length qc] w' fun e w'' => ∃ q : Q4, e = .returned (.tuple #[.agg #[.slice q.sa q.sn q.sc, .slice q.ra q.rn q.rc, .slice q.wa q.wn q.tc, .slice q.va q.vn q.vc], .int .i64 (playN (sh : Int) l s qk : Nat), .int .i64 (playE (sh : Int) l s qk)]) ∧ Below w'.heap.size w' w'') := fun w' hb => (play_any la lc l sa sc s qa qc qk (sh : Int) w' ((hl.below gW.out).below hb) ((hs.below gW.out).below hb) ((hq.below gW.out).below hb) hqc hqw).mono (by rintro e w'' ⟨q, rfl, _, hb⟩; exact ⟨q, rfl, hb⟩)
 have hb0 : begE (sh : Int) l s = 0 := firstNZ_zero _ hE 0
 obtain ⟨hp0, h8⟩ := beg_zero hb0
 obtain ⟨h1, h4, hc⟩ := planE_zero hp0
 have e1 : playN (sh : Int) l s pk = cntAll sh l := by
  have h : playN (sh : Int) l s pk = cntAll (sh : Int).toNat l := if_pos hE
  rw [h, Int.toNat_natCast]
 have e2 : playN (sh : Int) l s qk = cntAll sh l := by
  have h : playN (sh : Int) l s qk = cntAll (sh : Int).toNat l := if_pos hE2
  rw [h, Int.toNat_natCast]
 have hl8 := chkL_len hc
 have C3 : Hid (∀ k : Nat, k < l.length → ∀ w', Below W.heap.size W w' → Calls Tryz.prog 38 #[.agg #[.int .i64 (sh : Int), .slice la l.length lc], .int .i64 (k : Int)] w' fun e w'' => ∃ g c, e = .returned (.tuple #[.slice (some ⟨g, 0, none⟩) sh c, .int .i64 0]) ∧ (∀ i, i < sh → w''.cell? ⟨g, i, none⟩ = some (.bool (ptB sh (gX l k) i))) ∧ Below w'.heap.size w' w'') := fun k hk w' hb => by
  refine (part_own la lc l sh k w' ((hl.below gW.out).below hb) (pnE_in hp0 hk)).mono ?_
  rintro e w'' ⟨g, c, rfl, ho, hb⟩
  refine ⟨g, c, rfl, fun i hi => ?_, hb⟩
  have hL := marks_len sh (keysIn (locksAt l k))
  obtain ⟨b', off', ea, _, d⟩ := (bools_of_owns ho) i (by rw [hL]; exact hi)
  injection ea with ea
  injection ea with e1 e2
  subst e1 e2
  rw [Nat.zero_add] at d
  exact d
 have C4 : Hid (∀ k : Nat, k < l.length → ∀ w', Below W.heap.size W w' → Calls Tryz.prog 39 #[.agg #[.int .i64 (sh : Int), .slice la l.length lc], .int .i64 (k : Int)] w' fun e w'' => ∃ g c, e = .returned (.tuple #[.slice (some ⟨g, 0, none⟩) sh c, .int .i64 0]) ∧ (∀ i, i < sh → w''.cell? ⟨g, i, none⟩ = some (.bool (acB sh (gX l k) i))) ∧ Below w'.heap.size w' w'') := fun k hk w' hb => by
  refine (active_own la lc l sh k w' ((hl.below gW.out).below hb) (pnE_in hp0 hk)).mono ?_
  rintro e w'' ⟨g, c, rfl, ho, hb⟩
  refine ⟨g, c, rfl, fun i hi => ?_, hb⟩
  have hL := marks_len sh (setsIn (locksAt l k))
  obtain ⟨b', off', ea, _, d⟩ := (bools_of_owns ho) i (by rw [hL]; exact hi)
  injection ea with ea
  injection ea with e1 e2
  subst e1 e2
  rw [Nat.zero_add] at d
  exact d
 have CT : Hid (cntAll sh l = c2 (fun n k => ptB sh (gX l n) k) sh l.length + c2 (fun n k => acB sh (gX l n) k) sh l.length) := rfl
 have h64 : ∀ k, k ≤ l.length → c2 (fun n k => ptB sh (gX l n) k) sh k + c2 (fun n k => acB sh (gX l n) k) sh k ≤ 64 := fun k hk => by
  have a1 := c2_le (fun n k => ptB sh (gX l n) k) sh k
  have a2 := c2_le (fun n k => acB sh (gX l n) k) sh k
  have a3 : k * sh ≤ 8 * 4 := Nat.mul_le_mul (by omega) (by omega)
  omega
 have H64 : Hid (∀ k, k ≤ l.length → c2 (fun n k => ptB sh (gX l n) k) sh k + c2 (fun n k => acB sh (gX l n) k) sh k ≤ 64) := h64
 rw [hE, e1] at C1
 rw [hE2, e2] at C2
 clear hl hs hp hpw hpc hq hqw hqc hE hE2 e1 e2 h64 hb0 hp0 h8 hc
 generalize cntAll sh l = N at *
 have HWe : Hid (W = _) := hWe
 clear hWe
 go_enter Tryz.func11, Tryz.ntmps11
 go_upto_region 1 with fail
 rw [← HWe.out]
 clear HWe
 go_wp2_with fail
 refine (C1.out _ (Below.refl _ _)).mono ?_
 rintro e w1 ⟨q, rfl, hb1⟩
 have gA : Below w1.heap.size w1 (w1.alloc (.cells #[.slice q.sa q.sn q.sc, .slice q.ra q.rn q.rc, .slice q.wa q.wn q.tc, .slice q.va q.vn q.vc] 29)) := grow_alloc (Below.refl _ _) _
 have gV : Hid (Below W.heap.size W (w1.alloc (.cells #[.slice q.sa q.sn q.sc, .slice q.ra q.rn q.rc, .slice q.wa q.wn q.tc, .slice q.va q.vn q.vc] 29))) := grow_trans hb1 gA
 have a0 := ext_cell gV.out p0
 have a1 := ext_cell gV.out p1
 clear hb1 gA C1
 go_upto_region 2 with fail
 generalize (w1.alloc (.cells #[.slice q.sa q.sn q.sc, .slice q.ra q.rn q.rc, .slice q.wa q.wn q.tc, .slice q.va q.vn q.vc] 29)) = V at *
 go_wp2_with fail
 refine (C2.out _ gV.out).mono ?_
 rintro e w2 ⟨y, rfl, hb2⟩
 have gA : Below w2.heap.size w2 (w2.alloc (.cells #[.slice y.sa y.sn y.sc, .slice y.ra y.rn y.rc, .slice y.wa y.wn y.tc, .slice y.va y.vn y.vc] 29)) := grow_alloc (Below.refl _ _) _
 have gU : Hid (Below W.heap.size W (w2.alloc (.cells #[.slice y.sa y.sn y.sc, .slice y.ra y.rn y.rc, .slice y.wa y.wn y.tc, .slice y.va y.vn y.vc] 29))) := grow_trans gV.out (grow_trans hb2 gA)
 clear hb2 gA C2 a0 a1 gV
 go_upto_region 3 with fail
 generalize (w2.alloc (.cells #[.slice y.sa y.sn y.sc, .slice y.ra y.rn y.rc, .slice y.wa y.wn y.tc, .slice y.va y.vn y.vc] 29)) = U at *
 have KEEP : Hid (∀ w', Below W.heap.size W w' → w'.cell? ⟨w.heap.size, 0, none⟩ = some (.int .i64 (sh : Int)) ∧ w'.cell? ⟨w.heap.size, 1, none⟩ = some (.slice la l.length lc)) := fun w' hb => ⟨ext_cell hb p0, ext_cell hb p1⟩
 clear p0 p1
 go_wp2
 go_loopw [15, 16] (fun c i wr => ∃ k : Nat, k ≤ l.length ∧ i = .int .i64 k ∧ c = .int .i64 ((c2 (fun n k => ptB sh (gX l n) k) sh k + c2 (fun n k => acB sh (gX l n) k) sh k : Nat) : Int) ∧ Hid (Below W.heap.size W wr)) (fun _ i _ => l.length - (intOf i).toNat)
 case atStart => exact ⟨0, Nat.zero_le _, rfl, rfl, gU⟩
 case round =>
  clear gU
  obtain ⟨k, hk, rfl, rfl, hB⟩ := hrel
  obtain ⟨a0, a1⟩ := KEEP.out wr hB.out
  have h6 := H64.out k hk
  by_cases hlt : k < l.length
  ·have i1 : (k : Int) < (l.length : Int) := by omega
   have HT : Hid (c2 (fun n k => ptB sh (gX l n) k) sh (k + 1) + c2 (fun n k => acB sh (gX l n) k) sh (k + 1) = c2 (fun n k => ptB sh (gX l n) k) sh k + c2 (fun n k => acB sh (gX l n) k) sh k + (c1 (fun i => ptB sh (gX l k) i) sh + c1 (fun i => acB sh (gX l k) i) sh)) := cntTo sh l k
   generalize c2 (fun n k => ptB sh (gX l n) k) sh k + c2 (fun n k => acB sh (gX l n) k) sh k = T at *
   have C3k := C3.out k hlt
   have C4k := C4.out k hlt
   have D3 : Hid _ := C3k
   have D4 : Hid _ := C4k
   clear C3k C4k
   go_wp2_with fail
   refine (D3.out _ hB.out).mono ?_
   rintro e w3 ⟨g, gc, rfl, hg, hb3⟩
   have B3 : Hid (Below W.heap.size W w3) := grow_trans hB.out hb3
   obtain ⟨a0, a1⟩ := KEEP.out w3 B3.out
   go_wp2_with fail
   refine (D4.out _ B3.out).mono ?_
   rintro e w4 ⟨h, hc, rfl, hh, hb4⟩
   have B4 : Hid (Below W.heap.size W w4) := grow_trans B3.out hb4
   have HG : Hid (∀ i, i < sh → w4.cell? ⟨g, i, none⟩ = some (.bool (ptB sh (gX l k) i))) := fun i hi => ext_cell hb4 (hg i hi)
   have HH : Hid (∀ i, i < sh → w4.cell? ⟨h, i, none⟩ = some (.bool (acB sh (gX l k) i))) := hh
   clear hg hh hb3 hb4 a0 a1 hB B3 D3 D4
   go_wp2
   go_loop [15, 21] (fun c i => ∃ j : Nat, j ≤ sh ∧ i = .int .i64 j ∧ c = .int .i64 ((T + (c1 (fun i => ptB sh (gX l k) i) j + c1 (fun i => acB sh (gX l k) i) j) : Nat) : Int)) (fun _ i => sh - (intOf i).toNat)
   case atStart => exact ⟨0, Nat.zero_le _, rfl, rfl⟩
   case round =>
    obtain ⟨j, hj, rfl, rfl⟩ := hrel
    by_cases hltj : j < sh
    ·have i2 : (j : Int) < (sh : Int) := by omega
     have d1 := HG.out j hltj
     have d2 := HH.out j hltj
     have HS : Hid (c1 (fun i => ptB sh (gX l k) i) (j + 1) + c1 (fun i => acB sh (gX l k) i) (j + 1) = c1 (fun i => ptB sh (gX l k) i) j + c1 (fun i => acB sh (gX l k) i) j + ((if ptB sh (gX l k) j then 1 else 0) + (if acB sh (gX l k) j then 1 else 0))) := cntStep _ _ j
     have b1 := c1_le (fun i => ptB sh (gX l k) i) j
     have b2 := c1_le (fun i => acB sh (gX l k) i) j
     have hC : c1 (fun i => ptB sh (gX l k) i) j + c1 (fun i => acB sh (gX l k) i) j ≤ 8 := by omega
     clear b1 b2
     generalize c1 (fun i => ptB sh (gX l k) i) j + c1 (fun i => acB sh (gX l k) i) j = C at *
     generalize ptB sh (gX l k) j = P at *
     generalize acB sh (gX l k) j = Q at *
     cases P <;> cases Q <;>
     ·go_wp2
      go_round
      case rel => exact ⟨j + 1, by omega, by go_num, by rw [HS.out]; simp <;> go_num⟩
      case measure => simp [intOf]; omega
    ·have hjj : j = sh := by omega
     subst hjj
     have i2 : ¬ (j : Int) < (j : Int) := by omega
     rw [← HT.out]
     clear HG HH
     have h7 := H64.out (k + 1) (by omega)
     go_wp2
     go_roundw
     case rel => exact ⟨k + 1, by omega, by go_num, rfl, B4⟩
     case measure => simp [intOf]; omega
  ·have hkk : k = l.length := by omega
   have i1 : ¬ (k : Int) < (l.length : Int) := by omega
   have B5 : Hid (Below w.heap.size w wr) := grow_trans gW.out hB.out
   have HK : Hid (k = l.length) := hkk
   rw [← HK.out]
   rw [← HK.out] at a1
   have i1 : ¬ (k : Int) < (k : Int) := by omega
   have HN : Hid (N = c2 (fun n k => ptB sh (gX l n) k) sh k + c2 (fun n k => acB sh (gX l n) k) sh k) := by show _ = _; rw [HK.out]; exact CT.out
   clear hkk hB hlt hk CT H64
   generalize c2 (fun n k => ptB sh (gX l n) k) sh k + c2 (fun n k => acB sh (gX l n) k) sh k = T at *
   have eN := HN.out
   subst eN
   clear HN
   go_wp2_with fail
   refine (playBegun_any _).mono ?_
   rintro e w6 ⟨rfl, hb6⟩
   have B6 : Hid (Below w.heap.size w w6) := grow_trans B5.out hb6
   clear hb6
   go_wp2
   go_ret
   exact ⟨rfl, B6.out⟩
theorem playMany_walk (m : Int) (w : World) (hl : IsTxs w la l) (hs : IsInts w sa s) (hp : IsInts w pa pk) (hpw : ∀ i, i < pk.length → (Lit.int .i64 (pk.getD i 0)).wf = true) (hpc : pk.length ≤ pc) (hq : IsInts w qa qk) (hqw : ∀ i, i < qk.length → (Lit.int .i64 (qk.getD i 0)).wf = true) (hqc : qk.length ≤ qc) :
  Calls Tryz.prog 11 #[.agg #[.int .i64 m, .slice la l.length lc], .slice sa s.length sc, .slice pa pk.length pc, .slice qa qk.length qc] w fun e w' => e = .returned (.bool true) ∧ Below w.heap.size w w' := by
 by_cases hE : playE m l s pk = 0 ∧ playE m l s qk = 0
 ·obtain ⟨h1, h2⟩ := hE
  have hb0 : begE m l s = 0 := firstNZ_zero _ h1 0
  obtain ⟨hp0, h8⟩ := beg_zero hb0
  obtain ⟨x1, x4, hc⟩ := planE_zero hp0
  obtain ⟨sh, rfl⟩ := Int.eq_ofNat_of_zero_le (show 0 ≤ m by omega)
  exact playMany_ok la lc l sa sc s pa pc pk qa qc qk sh w hl hs hp hpw hpc hq hqw hqc h1 h2
 ·exact playMany_bad la lc l sa sc s pa pc pk qa qc qk m w hl hs hp hpw hpc hq hqw hqc hE
end Go.Proofs.YtebjkmknhpgemaaGreat
