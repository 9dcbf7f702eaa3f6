/-
  
  Conditions: those that each theorem states.
-/
import Derived.Test.YtebjkmknhpgemaaGreatYRestC
import Derived.WalkKit
import Derived.WalkSpells
import Derived.WalkLawsBesides
import Derived.Defers
import Derived.Recover
import Derived.ProofKit
import Derived.Deep.RegionHeld
import Derived.Deep.RegionHeld3
import Derived.Deep.RegionLaw
import Derived.Deep.DeepCutAuto
import Derived.Deep.QuietTactic
import Derived.BigQuiet
import Derived.Maps.AppendAt
import Derived.Lib.SliceRun
import Derived.Deep.AppendLies
namespace Go.Proofs.YtebjkmknhpgemaaGreat
open Go.RowKit
variable (la : Option Addr) (lc : Nat) (l : List TxA) (sa ra wa va : Option Addr) (sc rc tc vc : Nat) (S : SA)
set_option maxRecDepth 100000 in
set_option maxHeartbeats 16000000 in
theorem restStates_walk (m kd n k : Int) (w : World) (hl : IsTxs w la l) (hs : Sta w sa ra wa va S) :
    Calls Tryz.prog 13 #[.agg #[.int .i64 m, .slice la l.length lc], .agg #[.slice sa S.st.length sc, .slice ra S.rd.length rc, .slice wa S.wr.length tc, .slice va S.vs.length vc], .agg #[.int .i64 kd, .int .i64 n, .int .i64 k]] w fun e w' => e = .returned (.bool true) ∧ Below w.heap.size w w' := by
  obtain ⟨W, hWe⟩ : ∃ W : World, W = (((w.alloc (.cells #[.int .i64 m, .slice la l.length lc] 24)).alloc (.cells #[.slice sa S.st.length sc, .slice ra S.rd.length rc, .slice wa S.wr.length tc, .slice va S.vs.length vc] 29)).alloc (.cells #[.int .i64 kd, .int .i64 n, .int .i64 k] 48)) := ⟨_, rfl⟩
  have hg : Below w.heap.size w W := by subst hWe; exact (grow_alloc (grow_alloc (grow_alloc (Below.refl _ _) _) _) _)
  have HG : Hid (Below w.heap.size w W) := hg
  have HBB : Hid (∀ w, Calls Tryz.prog 20 #[] w fun e w' => e = .returned (.bool true) ∧ Below w.heap.size w w') := stepsBegun_any
  have p0 : W.cell? ⟨w.heap.size, 0, none⟩ = some (.int .i64 m) := by subst hWe; exact ext_cell (grow_alloc (grow_alloc (Below.refl _ _) _) _) (at_new _ _ 24 _ 0 _ (by first | rfl | simp) rfl)
  have p1 : W.cell? ⟨w.heap.size, 1, none⟩ = some (.slice la l.length lc) := by subst hWe; exact ext_cell (grow_alloc (grow_alloc (Below.refl _ _) _) _) (at_new _ _ 24 _ 1 _ (by first | rfl | simp) rfl)
  have q0 : W.cell? ⟨w.heap.size + 1, 0, none⟩ = some (.slice sa S.st.length sc) := by subst hWe; exact ext_cell (grow_alloc (Below.refl _ _) _) (at_new _ _ 29 _ 0 _ (by first | rfl | simp) rfl)
  have q1 : W.cell? ⟨w.heap.size + 1, 1, none⟩ = some (.slice ra S.rd.length rc) := by subst hWe; exact ext_cell (grow_alloc (Below.refl _ _) _) (at_new _ _ 29 _ 1 _ (by first | rfl | simp) rfl)
  have q2 : W.cell? ⟨w.heap.size + 1, 2, none⟩ = some (.slice wa S.wr.length tc) := by subst hWe; exact ext_cell (grow_alloc (Below.refl _ _) _) (at_new _ _ 29 _ 2 _ (by first | rfl | simp) rfl)
  have q3 : W.cell? ⟨w.heap.size + 1, 3, none⟩ = some (.slice va S.vs.length vc) := by subst hWe; exact ext_cell (grow_alloc (Below.refl _ _) _) (at_new _ _ 29 _ 3 _ (by first | rfl | simp) rfl)
  have r0 : W.cell? ⟨w.heap.size + 2, 0, none⟩ = some (.int .i64 kd) := by subst hWe; exact ext_cell (Below.refl _ _) (at_new _ _ 48 _ 0 _ (by first | rfl | simp) rfl)
  have r1 : W.cell? ⟨w.heap.size + 2, 1, none⟩ = some (.int .i64 n) := by subst hWe; exact ext_cell (Below.refl _ _) (at_new _ _ 48 _ 1 _ (by first | rfl | simp) rfl)
  have r2 : W.cell? ⟨w.heap.size + 2, 2, none⟩ = some (.int .i64 k) := by subst hWe; exact ext_cell (Below.refl _ _) (at_new _ _ 48 _ 2 _ (by first | rfl | simp) rfl)
  have KEEP : Hid (∀ w', Below W.heap.size W w' → w'.cell? ⟨w.heap.size, 0, none⟩ = some (.int .i64 m) ∧ w'.cell? ⟨w.heap.size, 1, none⟩ = some (.slice la l.length lc) ∧ w'.cell? ⟨w.heap.size + 1, 0, none⟩ = some (.slice sa S.st.length sc) ∧ w'.cell? ⟨w.heap.size + 1, 1, none⟩ = some (.slice ra S.rd.length rc) ∧ w'.cell? ⟨w.heap.size + 1, 2, none⟩ = some (.slice wa S.wr.length tc) ∧ w'.cell? ⟨w.heap.size + 1, 3, none⟩ = some (.slice va S.vs.length vc) ∧ w'.cell? ⟨w.heap.size + 2, 0, none⟩ = some (.int .i64 kd) ∧ w'.cell? ⟨w.heap.size + 2, 1, none⟩ = some (.int .i64 n) ∧ w'.cell? ⟨w.heap.size + 2, 2, none⟩ = some (.int .i64 k)) := fun w' hb => ⟨ext_cell hb p0, ext_cell hb p1, ext_cell hb q0, ext_cell hb q1, ext_cell hb q2, ext_cell hb q3, ext_cell hb r0, ext_cell hb r1, ext_cell hb r2⟩
  have HL : Hid (IsTxs W la l) := hl.below hg
  have HS : Hid (Sta W sa ra wa va S) := hs.below hg
  have C0 : Hid (Calls Tryz.prog 19 #[.agg #[.int .i64 m, .slice la l.length lc], .agg #[.slice sa S.st.length sc, .slice ra S.rd.length rc, .slice wa S.wr.length tc, .slice va S.vs.length vc]] W fun e w' => e = .returned (.int .i64 (stE m l S)) ∧ Below W.heap.size W w') := docCheck_any la lc l sa ra wa va sc rc tc vc S m W (hl.below hg) (hs.below hg)
  clear hl hs hg p0 p1 q0 q1 q2 q3 r0 r1 r2
  have HWe : Hid (W = _) := hWe
  clear hWe
  go_enter Tryz.func13, Tryz.ntmps13
  go_upto_region 1 with fail
  rw [← HWe.out]
  clear HWe
  obtain ⟨p0, p1, q0, q1, q2, q3, r0, r1, r2⟩ := KEEP.out W (Below.refl _ _)
  go_wp2_with fail
  refine C0.out.mono ?_
  rintro e w0 ⟨rfl, hb0⟩
  have B0 : Hid (Below W.heap.size W w0) := hb0
  clear hb0 C0 p0 p1 q0 q1 q2 q3 r0 r1 r2
  by_cases hst : stE m l S = 0
  rotate_left
  · have hne : (stE m l S != 0) = true := by simpa using hst
    have BW : Hid (Below w.heap.size w w0) := grow_trans HG.out B0.out
    clear HL HS KEEP
    go_wp2_with fail
    refine (HBB.out _).mono ?_
    rintro e w3 ⟨rfl, hbx⟩
    have B3 : Hid (Below w.heap.size w w3) := grow_trans BW.out hbx
    clear hbx
    go_wp2
    go_ret
    exact ⟨rfl, B3.out⟩
  rw [hst]
  have CO : Hid (∀ w', Below W.heap.size W w' → Calls Tryz.prog 40 #[.agg #[.slice sa S.st.length sc, .slice ra S.rd.length rc, .slice wa S.wr.length tc, .slice va S.vs.length vc]] w' fun e w'' => ∃ q : Q4, e = .returned (.agg #[.slice q.sa q.sn q.sc, .slice q.ra q.rn q.rc, .slice q.wa q.wn q.tc, .slice q.va q.vn q.vc]) ∧ StaF w'.heap.size S q w'' ∧ Below w'.heap.size w' w'') := fun w' hb => docOwn_q l sa ra wa va sc rc tc vc S m w' (HS.out.below hb) hst
  have C1 : Hid (∀ w', Below W.heap.size W w' → Calls Tryz.prog 26 #[.agg #[.int .i64 m, .slice la l.length lc], .agg #[.slice sa S.st.length sc, .slice ra S.rd.length rc, .slice wa S.wr.length tc, .slice va S.vs.length vc], .agg #[.int .i64 kd, .int .i64 n, .int .i64 k]] w' fun e w'' => ∃ q : Q4, e = .returned (.tuple #[.agg #[.slice q.sa q.sn q.sc, .slice q.ra q.rn q.rc, .slice q.wa q.wn q.tc, .slice q.va q.vn q.vc], .int .i64 (doE m l S kd n k)]) ∧ OwnP w'.heap.size (doS m l S kd n k) q w'' ∧ Below w'.heap.size w' w'') := fun w' hb => stepsDo_own la lc l sa ra wa va sc rc tc vc S m kd n k w' (HL.out.below hb) (HS.out.below hb)
  have C2 : Hid (∀ w', Below W.heap.size W w' → Calls Tryz.prog 27 #[.agg #[.int .i64 m, .slice la l.length lc], .agg #[.slice sa S.st.length sc, .slice ra S.rd.length rc, .slice wa S.wr.length tc, .slice va S.vs.length vc], .agg #[.int .i64 kd, .int .i64 n, .int .i64 k]] w' fun e w'' => ∃ q : Q4, e = .returned (.tuple #[.agg #[.slice q.sa q.sn q.sc, .slice q.ra q.rn q.rc, .slice q.wa q.wn q.tc, .slice q.va q.vn q.vc], .int .i64 (doE m l S kd n k)]) ∧ StaF w'.heap.size (doS m l S kd n k) q w'' ∧ Below w'.heap.size w' w'') := fun w' hb => docDo_any la lc l sa ra wa va sc rc tc vc S m kd n k w' (HL.out.below hb) (HS.out.below hb)
  have hbe : begE m l S.st = 0 := by
    obtain ⟨sh, rfl, _, _, _, hp, hf, _⟩ := stE_zero hst
    exact (beg_parts _ _ _).2.2 hp (formB_iff.1 hf).st
  have CB : Hid (∀ w', Below W.heap.size W w' → Calls Tryz.prog 14 #[.agg #[.int .i64 m, .slice la l.length lc], .slice sa S.st.length sc] w' fun e w'' => ∃ q : Q4, e = .returned (.tuple #[.agg #[.slice q.sa q.sn q.sc, .slice q.ra q.rn q.rc, .slice q.wa q.wn q.tc, .slice q.va q.vn q.vc], .int .i64 0]) ∧ OwnP w'.heap.size (begS m l S.st) q w'' ∧ Below w'.heap.size w' w'') := fun w' hb => by
    have h := stepsBegin_own la lc l sa sc S.st m w' (HL.out.below hb) (HS.out.below hb).st
    rw [hbe] at h
    exact h
  have CE : Hid (∀ (q q' : Q4) w', StaQ (doS m l S kd n k) q w' → StaQ (doS m l S kd n k) q' w' → Calls Tryz.prog 21 #[.agg #[.slice q.sa q.sn q.sc, .slice q.ra q.rn q.rc, .slice q.wa q.wn q.tc, .slice q.va q.vn q.vc], .agg #[.slice q'.sa q'.sn q'.sc, .slice q'.ra q'.rn q'.rc, .slice q'.wa q'.wn q'.tc, .slice q'.va q'.vn q'.vc]] w' fun e w'' => e = .returned (.bool true) ∧ Below w'.heap.size w' w'') := fun q q' w' h1 h2 => staQ_same (do_small m l S kd n k) h1 h2
  have CS : Hid (∀ (q : Q4) w', Below W.heap.size W w' → StaQ S q w' → Calls Tryz.prog 21 #[.agg #[.slice sa S.st.length sc, .slice ra S.rd.length rc, .slice wa S.wr.length tc, .slice va S.vs.length vc], .agg #[.slice q.sa q.sn q.sc, .slice q.ra q.rn q.rc, .slice q.wa q.wn q.tc, .slice q.va q.vn q.vc]] w' fun e w'' => e = .returned (.bool true) ∧ Below w'.heap.size w' w'') := fun q w' hb hq => staQ_same (q := ⟨sa, ra, wa, va, S.st.length, S.rd.length, S.wr.length, S.vs.length, sc, rc, tc, vc⟩) (small_st hst) ⟨rfl, rfl, rfl, rfl, HS.out.below hb⟩ hq
  have SM1 : Hid ((doS m l S kd n k).st.length ≤ 100 ∧ (doS m l S kd n k).rd.length ≤ 100 ∧ (doS m l S kd n k).wr.length ≤ 100 ∧ (doS m l S kd n k).vs.length ≤ 100 ∧ ∀ i, ((doS m l S kd n k).rd.getD i []).length ≤ 100 ∧ ((doS m l S kd n k).wr.getD i []).length ≤ 100 ∧ ((doS m l S kd n k).vs.getD i []).length ≤ 100) := do_small m l S kd n k
  have SM2 : Hid ((begS m l S.st).st.length ≤ 100 ∧ (begS m l S.st).rd.length ≤ 100 ∧ (begS m l S.st).wr.length ≤ 100 ∧ (begS m l S.st).vs.length ≤ 100 ∧ ∀ i, ((begS m l S.st).rd.getD i []).length ≤ 100 ∧ ((begS m l S.st).wr.getD i []).length ≤ 100 ∧ ((begS m l S.st).vs.getD i []).length ≤ 100) := small_st (inv_st (beg_zero hbe).1 (beg_inv hbe))
  clear HL HS hst hbe
  generalize doE m l S kd n k = E at *
  generalize doS m l S kd n k = S1 at *
  generalize begS m l S.st = S2 at *
  go_upto_region 3 with fail
  obtain ⟨p0, p1, q0, q1, q2, q3, r0, r1, r2⟩ := KEEP.out w0 B0.out
  go_wp2_with fail
  refine (CO.out _ B0.out).mono ?_
  rintro e w1 ⟨q0', rfl, hq, hb1⟩
  have gA : Below w1.heap.size w1 (w1.alloc (.cells #[.slice q0'.sa q0'.sn q0'.sc, .slice q0'.ra q0'.rn q0'.rc, .slice q0'.wa q0'.wn q0'.tc, .slice q0'.va q0'.vn q0'.vc] 29)) := grow_alloc (Below.refl _ _) _
  have B4 : Hid (Below W.heap.size W (w1.alloc (.cells #[.slice q0'.sa q0'.sn q0'.sc, .slice q0'.ra q0'.rn q0'.rc, .slice q0'.wa q0'.wn q0'.tc, .slice q0'.va q0'.vn q0'.vc] 29))) := grow_trans B0.out (grow_trans hb1 gA)
  have HQ0 : Hid (StaQ S q0' (w1.alloc (.cells #[.slice q0'.sa q0'.sn q0'.sc, .slice q0'.ra q0'.rn q0'.rc, .slice q0'.wa q0'.wn q0'.tc, .slice q0'.va q0'.vn q0'.vc] 29))) := hq.sta.below gA
  have O0 : Hid ((w1.alloc (.cells #[.slice q0'.sa q0'.sn q0'.sc, .slice q0'.ra q0'.rn q0'.rc, .slice q0'.wa q0'.wn q0'.tc, .slice q0'.va q0'.vn q0'.vc] 29)).cell? ⟨w1.heap.size, 0, none⟩ = some (.slice q0'.sa q0'.sn q0'.sc) ∧ (w1.alloc (.cells #[.slice q0'.sa q0'.sn q0'.sc, .slice q0'.ra q0'.rn q0'.rc, .slice q0'.wa q0'.wn q0'.tc, .slice q0'.va q0'.vn q0'.vc] 29)).cell? ⟨w1.heap.size, 1, none⟩ = some (.slice q0'.ra q0'.rn q0'.rc) ∧ (w1.alloc (.cells #[.slice q0'.sa q0'.sn q0'.sc, .slice q0'.ra q0'.rn q0'.rc, .slice q0'.wa q0'.wn q0'.tc, .slice q0'.va q0'.vn q0'.vc] 29)).cell? ⟨w1.heap.size, 2, none⟩ = some (.slice q0'.wa q0'.wn q0'.tc) ∧ (w1.alloc (.cells #[.slice q0'.sa q0'.sn q0'.sc, .slice q0'.ra q0'.rn q0'.rc, .slice q0'.wa q0'.wn q0'.tc, .slice q0'.va q0'.vn q0'.vc] 29)).cell? ⟨w1.heap.size, 3, none⟩ = some (.slice q0'.va q0'.vn q0'.vc)) := ⟨at_new _ _ 29 _ 0 _ rfl rfl, at_new _ _ 29 _ 1 _ rfl rfl, at_new _ _ 29 _ 2 _ rfl rfl, at_new _ _ 29 _ 3 _ rfl rfl⟩
  clear gA hb1 hq CO p0 p1 q0 q1 q2 q3 r0 r1 r2 B0
  go_upto_region 4 with fail
  generalize (w1.alloc (.cells #[.slice q0'.sa q0'.sn q0'.sc, .slice q0'.ra q0'.rn q0'.rc, .slice q0'.wa q0'.wn q0'.tc, .slice q0'.va q0'.vn q0'.vc] 29)) = W4 at *
  generalize w1.heap.size = b0 at *
  obtain ⟨p0, p1, q0, q1, q2, q3, r0, r1, r2⟩ := KEEP.out W4 B4.out
  go_wp2_with fail
  refine (C1.out _ B4.out).mono ?_
  rintro e w2 ⟨qx, rfl, hq, hb2⟩
  have gA : Below w2.heap.size w2 (w2.alloc (.cells #[.slice qx.sa qx.sn qx.sc, .slice qx.ra qx.rn qx.rc, .slice qx.wa qx.wn qx.tc, .slice qx.va qx.vn qx.vc] 29)) := grow_alloc (Below.refl _ _) _
  have D5 : Hid (Below W4.heap.size W4 (w2.alloc (.cells #[.slice qx.sa qx.sn qx.sc, .slice qx.ra qx.rn qx.rc, .slice qx.wa qx.wn qx.tc, .slice qx.va qx.vn qx.vc] 29))) := grow_trans hb2 gA
  have R1 : Hid (Wri W4.heap.size qx (w2.alloc (.cells #[.slice qx.sa qx.sn qx.sc, .slice qx.ra qx.rn qx.rc, .slice qx.wa qx.wn qx.tc, .slice qx.va qx.vn qx.vc] 29))) := (hq.wri SM1.out).below gA
  have o0 : (w2.alloc (.cells #[.slice qx.sa qx.sn qx.sc, .slice qx.ra qx.rn qx.rc, .slice qx.wa qx.wn qx.tc, .slice qx.va qx.vn qx.vc] 29)).cell? ⟨w2.heap.size, 0, none⟩ = some (.slice qx.sa qx.sn qx.sc) := at_new _ _ 29 _ 0 _ rfl rfl
  have o1 : (w2.alloc (.cells #[.slice qx.sa qx.sn qx.sc, .slice qx.ra qx.rn qx.rc, .slice qx.wa qx.wn qx.tc, .slice qx.va qx.vn qx.vc] 29)).cell? ⟨w2.heap.size, 1, none⟩ = some (.slice qx.ra qx.rn qx.rc) := at_new _ _ 29 _ 1 _ rfl rfl
  have o2 : (w2.alloc (.cells #[.slice qx.sa qx.sn qx.sc, .slice qx.ra qx.rn qx.rc, .slice qx.wa qx.wn qx.tc, .slice qx.va qx.vn qx.vc] 29)).cell? ⟨w2.heap.size, 2, none⟩ = some (.slice qx.wa qx.wn qx.tc) := at_new _ _ 29 _ 2 _ rfl rfl
  have o3 : (w2.alloc (.cells #[.slice qx.sa qx.sn qx.sc, .slice qx.ra qx.rn qx.rc, .slice qx.wa qx.wn qx.tc, .slice qx.va qx.vn qx.vc] 29)).cell? ⟨w2.heap.size, 3, none⟩ = some (.slice qx.va qx.vn qx.vc) := at_new _ _ 29 _ 3 _ rfl rfl
  clear gA hb2 hq p0 p1 q0 q1 q2 q3 r0 r1 r2
  go_upto_region 5 with fail
  generalize (w2.alloc (.cells #[.slice qx.sa qx.sn qx.sc, .slice qx.ra qx.rn qx.rc, .slice qx.wa qx.wn qx.tc, .slice qx.va qx.vn qx.vc] 29)) = W5 at *
  generalize w2.heap.size = b1 at *
  have B5 : Hid (Below W.heap.size W W5) := grow_trans B4.out D5.out
  obtain ⟨p0, p1, q0, q1, q2, q3, r0, r1, r2⟩ := KEEP.out W5 B5.out
  go_wp2_with fail
  refine (CB.out _ B5.out).mono ?_
  rintro e w3 ⟨qy, rfl, hq, hb3⟩
  have gA : Below w3.heap.size w3 (w3.alloc (.cells #[.slice qy.sa qy.sn qy.sc, .slice qy.ra qy.rn qy.rc, .slice qy.wa qy.wn qy.tc, .slice qy.va qy.vn qy.vc] 29)) := grow_alloc (Below.refl _ _) _
  have hbn : Below W5.heap.size W5 (w3.alloc (.cells #[.slice qy.sa qy.sn qy.sc, .slice qy.ra qy.rn qy.rc, .slice qy.wa qy.wn qy.tc, .slice qy.va qy.vn qy.vc] 29)) := grow_trans hb3 gA
  have D6 : Hid (Below W4.heap.size W4 (w3.alloc (.cells #[.slice qy.sa qy.sn qy.sc, .slice qy.ra qy.rn qy.rc, .slice qy.wa qy.wn qy.tc, .slice qy.va qy.vn qy.vc] 29))) := grow_trans D5.out hbn
  have R1' : Hid (Wri W4.heap.size qx (w3.alloc (.cells #[.slice qy.sa qy.sn qy.sc, .slice qy.ra qy.rn qy.rc, .slice qy.wa qy.wn qy.tc, .slice qy.va qy.vn qy.vc] 29))) := R1.out.below hbn
  have R2 : Hid (Wri W4.heap.size qy (w3.alloc (.cells #[.slice qy.sa qy.sn qy.sc, .slice qy.ra qy.rn qy.rc, .slice qy.wa qy.wn qy.tc, .slice qy.va qy.vn qy.vc] 29))) := ((hq.low D5.out.size).wri SM2.out).below gA
  have o0 := ext_cell hbn o0
  have o1 := ext_cell hbn o1
  have o2 := ext_cell hbn o2
  have o3 := ext_cell hbn o3
  have y0 : (w3.alloc (.cells #[.slice qy.sa qy.sn qy.sc, .slice qy.ra qy.rn qy.rc, .slice qy.wa qy.wn qy.tc, .slice qy.va qy.vn qy.vc] 29)).cell? ⟨w3.heap.size, 0, none⟩ = some (.slice qy.sa qy.sn qy.sc) := at_new _ _ 29 _ 0 _ rfl rfl
  have y1 : (w3.alloc (.cells #[.slice qy.sa qy.sn qy.sc, .slice qy.ra qy.rn qy.rc, .slice qy.wa qy.wn qy.tc, .slice qy.va qy.vn qy.vc] 29)).cell? ⟨w3.heap.size, 1, none⟩ = some (.slice qy.ra qy.rn qy.rc) := at_new _ _ 29 _ 1 _ rfl rfl
  have y2 : (w3.alloc (.cells #[.slice qy.sa qy.sn qy.sc, .slice qy.ra qy.rn qy.rc, .slice qy.wa qy.wn qy.tc, .slice qy.va qy.vn qy.vc] 29)).cell? ⟨w3.heap.size, 2, none⟩ = some (.slice qy.wa qy.wn qy.tc) := at_new _ _ 29 _ 2 _ rfl rfl
  have y3 : (w3.alloc (.cells #[.slice qy.sa qy.sn qy.sc, .slice qy.ra qy.rn qy.rc, .slice qy.wa qy.wn qy.tc, .slice qy.va qy.vn qy.vc] 29)).cell? ⟨w3.heap.size, 3, none⟩ = some (.slice qy.va qy.vn qy.vc) := at_new _ _ 29 _ 3 _ rfl rfl
  clear gA hb3 hq p0 p1 q0 q1 q2 q3 r0 r1 r2 hbn R1 SM1 SM2 B5 D5 CB
  go_upto_region 6 with fail
  generalize (w3.alloc (.cells #[.slice qy.sa qy.sn qy.sc, .slice qy.ra qy.rn qy.rc, .slice qy.wa qy.wn qy.tc, .slice qy.va qy.vn qy.vc] 29)) = W6 at *
  generalize w3.heap.size = b2 at *
  have gA : Below W6.heap.size W6 (W6.alloc (.cells #[.slice qx.sa qx.sn qx.sc, .slice qx.ra qx.rn qx.rc, .slice qx.wa qx.wn qx.tc, .slice qx.va qx.vn qx.vc, .slice qy.sa qy.sn qy.sc, .slice qy.ra qy.rn qy.rc, .slice qy.wa qy.wn qy.tc, .slice qy.va qy.vn qy.vc] 29)) := grow_alloc (Below.refl _ _) _
  have J0 : Hid (RJ W4 W4.heap.size W6.heap.size qx qy (W6.alloc (.cells #[.slice qx.sa qx.sn qx.sc, .slice qx.ra qx.rn qx.rc, .slice qx.wa qx.wn qx.tc, .slice qx.va qx.vn qx.vc, .slice qy.sa qy.sn qy.sc, .slice qy.ra qy.rn qy.rc, .slice qy.wa qy.wn qy.tc, .slice qy.va qy.vn qy.vc] 29))) := ⟨grow_trans D6.out gA, fun i hi => by
    match i, hi with
    | 0, _ => exact R1'.out.below gA
    | 1, _ => exact R2.out.below gA, fun i hi => by
    match i, hi with
    | 0, _ => exact ⟨at_new _ _ 29 _ 0 _ rfl rfl, at_new _ _ 29 _ 1 _ rfl rfl, at_new _ _ 29 _ 2 _ rfl rfl, at_new _ _ 29 _ 3 _ rfl rfl⟩
    | 1, _ => exact ⟨at_new _ _ 29 _ 4 _ rfl rfl, at_new _ _ 29 _ 5 _ rfl rfl, at_new _ _ 29 _ 6 _ rfl rfl, at_new _ _ 29 _ 7 _ rfl rfl⟩⟩
  clear gA R1' R2 D6
  go_upto_region 7 with fail
  clear o0 o1 o2 o3 y0 y1 y2 y3
  generalize (W6.alloc (.cells #[.slice qx.sa qx.sn qx.sc, .slice qx.ra qx.rn qx.rc, .slice qx.wa qx.wn qx.tc, .slice qx.va qx.vn qx.vc, .slice qy.sa qy.sn qy.sc, .slice qy.ra qy.rn qy.rc, .slice qy.wa qy.wn qy.tc, .slice qy.va qy.vn qy.vc] 29)) = W7 at *
  generalize W6.heap.size = Lb at *
  generalize hlo : W4.heap.size = lo at *
  go_wp2
  go_loopw [13] (fun x wr => ∃ i : Nat, i ≤ 2 ∧ x = .int .i64 i ∧ Hid (RJ W4 lo Lb qx qy wr)) (fun x _ => 2 - (intOf x).toNat)
  case atStart => exact ⟨0, Nat.zero_le _, rfl, J0⟩
  case round =>
    obtain ⟨i, hi, rfl, J⟩ := hrel
    clear J0
    by_cases hlti : i < 2
    · have i1 : (i : Int) < 2 := by omega
      have HQ0' : ∀ wr, RJ W4 lo Lb qx qy wr → wr.cell? ⟨Lb, i * 4, none⟩ = some (.slice (qq qx qy i).sa (qq qx qy i).sn (qq qx qy i).sc) ∧ wr.cell? ⟨Lb, i * 4 + 1, none⟩ = some (.slice (qq qx qy i).ra (qq qx qy i).rn (qq qx qy i).rc) ∧ wr.cell? ⟨Lb, i * 4 + 2, none⟩ = some (.slice (qq qx qy i).wa (qq qx qy i).wn (qq qx qy i).tc) ∧ wr.cell? ⟨Lb, i * 4 + 3, none⟩ = some (.slice (qq qx qy i).va (qq qx qy i).vn (qq qx qy i).vc) := fun wr j => j.h i hlti
      have HW0 : ∀ wr, RJ W4 lo Lb qx qy wr → Wri lo (qq qx qy i) wr := fun wr j => j.w i hlti
      obtain ⟨q, hqe⟩ : ∃ q, qq qx qy i = q := ⟨_, rfl⟩
      rw [hqe] at HQ0' HW0
      have HQ : Hid (∀ wr, RJ W4 lo Lb qx qy wr → wr.cell? ⟨Lb, i * 4, none⟩ = some (.slice q.sa q.sn q.sc) ∧ wr.cell? ⟨Lb, i * 4 + 1, none⟩ = some (.slice q.ra q.rn q.rc) ∧ wr.cell? ⟨Lb, i * 4 + 2, none⟩ = some (.slice q.wa q.wn q.tc) ∧ wr.cell? ⟨Lb, i * 4 + 3, none⟩ = some (.slice q.va q.vn q.vc)) := HQ0'
      have HW : Hid (∀ wr, RJ W4 lo Lb qx qy wr → Wri lo q wr) := HW0
      clear HQ0' HW0 hqe
      go_upto_region 11 with fail
      go_loopw [14] (fun x wr => ∃ k : Nat, k ≤ q.sn ∧ x = .int .i64 k ∧ Hid (RJ W4 lo Lb qx qy wr)) (fun x _ => q.sn - (intOf x).toNat)
      case atStart => exact ⟨0, Nat.zero_le _, rfl, J⟩
      case round =>
        clear J
        obtain ⟨k, hk, rfl, J⟩ := hrel
        obtain ⟨h0, h1, h2, h3⟩ := HQ.out wr J.out
        have hq100 := ((HW.out wr J.out).st).1
        by_cases hlt : k < q.sn
        · have i2 : (k : Int) < (q.sn : Int) := by omega
          obtain ⟨b', off', ea, hlo, ⟨u, hc⟩, hf⟩ := ((HW.out wr J.out).st).2 k hlt
          rw [ea] at h0
          have ER : Hid (RJ W4 lo Lb qx qy (wr.setCell ⟨b', off' + k, none⟩ (.int .i64 (-9)))) := J.out.set (.inl ⟨u, -9, rfl, rfl⟩) hc hlo
          clear J hlo ea
          go_wp2
          go_roundw
          case rel => exact ⟨k + 1, by omega, by go_num, ER⟩
          case measure => simp [intOf]; omega
        · have i2 : ¬ (k : Int) < (q.sn : Int) := by omega
          go_upto_region 15 with fail
          clear h0 h1 h2 h3
          go_loopw [15] (fun x wr => ∃ n : Nat, n ≤ q.rn ∧ x = .int .i64 n ∧ Hid (RJ W4 lo Lb qx qy wr)) (fun x _ => q.rn - (intOf x).toNat)
          case atStart => exact ⟨0, Nat.zero_le _, rfl, J⟩
          case round =>
            clear J
            obtain ⟨n, hn, rfl, J⟩ := hrel
            obtain ⟨h0, h1, h2, h3⟩ := HQ.out wr J.out
            have hq100 := ((HW.out wr J.out).rd).1
            by_cases hlt : n < q.rn
            · have i2 : (n : Int) < (q.rn : Int) := by omega
              obtain ⟨rb, ro, ra', len, rc', er, hrow, hwr⟩ := ((HW.out wr J.out).rd).2 n hlt
              have hl100 := hwr.1
              have K0 : Hid (wr.cell? ⟨rb, ro + n, none⟩ = some (.slice ra' len rc') ∧ WriB lo wr ra' len) := ⟨hrow, hwr⟩
              clear hrow hwr
              go_upto_region 18 with fail
              clear h0 h1 h2 h3
              go_loopw [16] (fun x wq => ∃ k : Nat, k ≤ len ∧ x = .int .i64 k ∧ Hid (RJ W4 lo Lb qx qy wq) ∧ Hid (wq.cell? ⟨rb, ro + n, none⟩ = some (.slice ra' len rc') ∧ WriB lo wq ra' len)) (fun x _ => len - (intOf x).toNat)
              case atStart => exact ⟨0, Nat.zero_le _, rfl, J, K0⟩
              case round =>
                clear J K0
                obtain ⟨k, hk, rfl, J, K0⟩ := hrel
                obtain ⟨h0, h1, h2, h3⟩ := HQ.out wr J.out
                have hrow := K0.out.1
                rw [er] at h1
                by_cases hlk : k < len
                · have i3 : (k : Int) < (len : Int) := by omega
                  obtain ⟨b', off', ea, hlo, ⟨u, hc⟩, hf⟩ := K0.out.2.2 k hlk
                  have ER : Hid (RJ W4 lo Lb qx qy (wr.setCell ⟨b', off' + k, none⟩ (.bool (!u))) ∧ (wr.setCell ⟨b', off' + k, none⟩ (.bool (!u))).cell? ⟨rb, ro + n, none⟩ = some (.slice ra' len rc') ∧ WriB lo (wr.setCell ⟨b', off' + k, none⟩ (.bool (!u))) ra' len ∧ lo ≤ (wr.setCell ⟨b', off' + k, none⟩ (.bool (!u))).heap.size) := ⟨J.out.set (.inr ⟨u, !u, rfl, rfl⟩) hc hlo, sm_slice (.inr ⟨u, !u, rfl, rfl⟩) hc K0.out.1, K0.out.2.set (.inr ⟨u, !u, rfl, rfl⟩) hc, by rw [World.size_setCell]; exact Nat.le_trans hlo (Nat.le_of_lt (World.block_lt_of_cell? wr ⟨b', off' + k, none⟩ hc))⟩
                  subst ea
                  clear J K0 hlo
                  go_upto_region 20 with fail
                  go_region
                  all_goals go_wp2
                  all_goals (
                    go_roundw
                    case rel => exact ⟨k + 1, by omega, by go_num, ER.out.1.below (grow_drew (Below.refl _ _)) ER.out.2.2.2, ⟨ext_cell (grow_drew (Below.refl _ _)) ER.out.2.1, ER.out.2.2.1.below (grow_drew (Below.refl _ _))⟩⟩
                    case measure => simp [intOf]; omega)
                · have i3 : ¬ (k : Int) < (len : Int) := by omega
                  go_wp2
                  go_roundw
                  case rel => exact ⟨n + 1, by omega, by go_num, J⟩
                  case measure => simp [intOf]; omega
            · have i2 : ¬ (n : Int) < (q.rn : Int) := by omega
              go_upto_region 22 with fail
              clear h0 h1 h2 h3
              go_loopw [17] (fun x wr => ∃ n : Nat, n ≤ q.wn ∧ x = .int .i64 n ∧ Hid (RJ W4 lo Lb qx qy wr)) (fun x _ => q.wn - (intOf x).toNat)
              case atStart => exact ⟨0, Nat.zero_le _, rfl, J⟩
              case round =>
                clear J
                obtain ⟨n, hn, rfl, J⟩ := hrel
                obtain ⟨h0, h1, h2, h3⟩ := HQ.out wr J.out
                have hq100 := ((HW.out wr J.out).wr).1
                by_cases hlt : n < q.wn
                · have i2 : (n : Int) < (q.wn : Int) := by omega
                  obtain ⟨rb, ro, ra', len, rc', er, hrow, hwr⟩ := ((HW.out wr J.out).wr).2 n hlt
                  have hl100 := hwr.1
                  have K0 : Hid (wr.cell? ⟨rb, ro + n, none⟩ = some (.slice ra' len rc') ∧ WriB lo wr ra' len) := ⟨hrow, hwr⟩
                  clear hrow hwr
                  go_upto_region 25 with fail
                  clear h0 h1 h2 h3
                  go_loopw [18] (fun x wq => ∃ k : Nat, k ≤ len ∧ x = .int .i64 k ∧ Hid (RJ W4 lo Lb qx qy wq) ∧ Hid (wq.cell? ⟨rb, ro + n, none⟩ = some (.slice ra' len rc') ∧ WriB lo wq ra' len)) (fun x _ => len - (intOf x).toNat)
                  case atStart => exact ⟨0, Nat.zero_le _, rfl, J, K0⟩
                  case round =>
                    clear J K0
                    obtain ⟨k, hk, rfl, J, K0⟩ := hrel
                    obtain ⟨h0, h1, h2, h3⟩ := HQ.out wr J.out
                    have hrow := K0.out.1
                    rw [er] at h2
                    by_cases hlk : k < len
                    · have i3 : (k : Int) < (len : Int) := by omega
                      obtain ⟨b', off', ea, hlo, ⟨u, hc⟩, hf⟩ := K0.out.2.2 k hlk
                      have ER : Hid (RJ W4 lo Lb qx qy (wr.setCell ⟨b', off' + k, none⟩ (.bool (!u))) ∧ (wr.setCell ⟨b', off' + k, none⟩ (.bool (!u))).cell? ⟨rb, ro + n, none⟩ = some (.slice ra' len rc') ∧ WriB lo (wr.setCell ⟨b', off' + k, none⟩ (.bool (!u))) ra' len ∧ lo ≤ (wr.setCell ⟨b', off' + k, none⟩ (.bool (!u))).heap.size) := ⟨J.out.set (.inr ⟨u, !u, rfl, rfl⟩) hc hlo, sm_slice (.inr ⟨u, !u, rfl, rfl⟩) hc K0.out.1, K0.out.2.set (.inr ⟨u, !u, rfl, rfl⟩) hc, by rw [World.size_setCell]; exact Nat.le_trans hlo (Nat.le_of_lt (World.block_lt_of_cell? wr ⟨b', off' + k, none⟩ hc))⟩
                      subst ea
                      clear J K0 hlo
                      go_upto_region 27 with fail
                      go_region
                      all_goals go_wp2
                      all_goals (
                        go_roundw
                        case rel => exact ⟨k + 1, by omega, by go_num, ER.out.1.below (grow_drew (Below.refl _ _)) ER.out.2.2.2, ⟨ext_cell (grow_drew (Below.refl _ _)) ER.out.2.1, ER.out.2.2.1.below (grow_drew (Below.refl _ _))⟩⟩
                        case measure => simp [intOf]; omega)
                    · have i3 : ¬ (k : Int) < (len : Int) := by omega
                      go_wp2
                      go_roundw
                      case rel => exact ⟨n + 1, by omega, by go_num, J⟩
                      case measure => simp [intOf]; omega
                · have i2 : ¬ (n : Int) < (q.wn : Int) := by omega
                  go_upto_region 29 with fail
                  clear h0 h1 h2 h3
                  go_loopw [19] (fun x wr => ∃ n : Nat, n ≤ q.vn ∧ x = .int .i64 n ∧ Hid (RJ W4 lo Lb qx qy wr)) (fun x _ => q.vn - (intOf x).toNat)
                  case atStart => exact ⟨0, Nat.zero_le _, rfl, J⟩
                  case round =>
                    clear J
                    obtain ⟨n, hn, rfl, J⟩ := hrel
                    obtain ⟨h0, h1, h2, h3⟩ := HQ.out wr J.out
                    have hq100 := ((HW.out wr J.out).vs).1
                    by_cases hlt : n < q.vn
                    · have i2 : (n : Int) < (q.vn : Int) := by omega
                      obtain ⟨rb, ro, ra', len, rc', er, hrow, hwr⟩ := ((HW.out wr J.out).vs).2 n hlt
                      have hl100 := hwr.1
                      have K0 : Hid (wr.cell? ⟨rb, ro + n, none⟩ = some (.slice ra' len rc') ∧ WriI lo wr ra' len) := ⟨hrow, hwr⟩
                      clear hrow hwr
                      go_upto_region 32 with fail
                      clear h0 h1 h2 h3
                      go_loopw [20] (fun x wq => ∃ k : Nat, k ≤ len ∧ x = .int .i64 k ∧ Hid (RJ W4 lo Lb qx qy wq) ∧ Hid (wq.cell? ⟨rb, ro + n, none⟩ = some (.slice ra' len rc') ∧ WriI lo wq ra' len)) (fun x _ => len - (intOf x).toNat)
                      case atStart => exact ⟨0, Nat.zero_le _, rfl, J, K0⟩
                      case round =>
                        clear J K0
                        obtain ⟨k, hk, rfl, J, K0⟩ := hrel
                        obtain ⟨h0, h1, h2, h3⟩ := HQ.out wr J.out
                        have hrow := K0.out.1
                        rw [er] at h3
                        by_cases hlk : k < len
                        · have i3 : (k : Int) < (len : Int) := by omega
                          obtain ⟨b', off', ea, hlo, ⟨u, hc⟩, hf⟩ := K0.out.2.2 k hlk
                          have ER : Hid (RJ W4 lo Lb qx qy (wr.setCell ⟨b', off' + k, none⟩ (.int .i64 (-9))) ∧ (wr.setCell ⟨b', off' + k, none⟩ (.int .i64 (-9))).cell? ⟨rb, ro + n, none⟩ = some (.slice ra' len rc') ∧ WriI lo (wr.setCell ⟨b', off' + k, none⟩ (.int .i64 (-9))) ra' len ∧ lo ≤ (wr.setCell ⟨b', off' + k, none⟩ (.int .i64 (-9))).heap.size) := ⟨J.out.set (.inl ⟨u, -9, rfl, rfl⟩) hc hlo, sm_slice (.inl ⟨u, -9, rfl, rfl⟩) hc K0.out.1, K0.out.2.set (.inl ⟨u, -9, rfl, rfl⟩) hc, by rw [World.size_setCell]; exact Nat.le_trans hlo (Nat.le_of_lt (World.block_lt_of_cell? wr ⟨b', off' + k, none⟩ hc))⟩
                          subst ea
                          clear J K0 hlo
                          go_wp2
                          go_roundw
                          case rel => exact ⟨k + 1, by omega, by go_num, ER.out.1, ⟨ER.out.2.1, ER.out.2.2.1⟩⟩
                          case measure => simp [intOf]; omega
                        · have i3 : ¬ (k : Int) < (len : Int) := by omega
                          go_wp2
                          go_roundw
                          case rel => exact ⟨n + 1, by omega, by go_num, J⟩
                          case measure => simp [intOf]; omega
                    · have i2 : ¬ (n : Int) < (q.vn : Int) := by omega
                      go_wp2
                      go_roundw
                      case rel => exact ⟨i + 1, by omega, by go_num, J⟩
                      case measure => simp [intOf]; omega
    · have i1 : ¬ (i : Int) < 2 := by omega
      have D4 : Below W4.heap.size W4 wr := by rw [hlo]; exact J.out.bl
      have BR : Hid (Below W.heap.size W wr) := grow_trans B4.out D4
      have HQ4 : Hid (StaQ S q0' wr) := HQ0.out.below D4
      obtain ⟨x0', x1', x2', x3'⟩ := O0.out
      have x0 := ext_cell D4 x0'
      have x1 := ext_cell D4 x1'
      have x2 := ext_cell D4 x2'
      have x3 := ext_cell D4 x3'
      obtain ⟨p0, p1, q0, q1, q2, q3, r0, r1, r2⟩ := KEEP.out wr BR.out
      clear x0' x1' x2' x3' O0 D4 J B4 HQ0
      go_upto_region 35 with fail
      go_wp2_with fail
      refine (C1.out _ BR.out).mono ?_
      rintro e w5 ⟨qc, rfl, hq, hb5⟩
      have gA : Below w5.heap.size w5 (w5.alloc (.cells #[.slice qc.sa qc.sn qc.sc, .slice qc.ra qc.rn qc.rc, .slice qc.wa qc.wn qc.tc, .slice qc.va qc.vn qc.vc] 29)) := grow_alloc (Below.refl _ _) _
      have hbn : Below wr.heap.size wr (w5.alloc (.cells #[.slice qc.sa qc.sn qc.sc, .slice qc.ra qc.rn qc.rc, .slice qc.wa qc.wn qc.tc, .slice qc.va qc.vn qc.vc] 29)) := grow_trans hb5 gA
      have B5 : Hid (Below W.heap.size W (w5.alloc (.cells #[.slice qc.sa qc.sn qc.sc, .slice qc.ra qc.rn qc.rc, .slice qc.wa qc.wn qc.tc, .slice qc.va qc.vn qc.vc] 29))) := grow_trans BR.out hbn
      have HC5 : Hid (StaQ S1 qc (w5.alloc (.cells #[.slice qc.sa qc.sn qc.sc, .slice qc.ra qc.rn qc.rc, .slice qc.wa qc.wn qc.tc, .slice qc.va qc.vn qc.vc] 29))) := hq.sta.below gA
      have HQ5 : Hid (StaQ S q0' (w5.alloc (.cells #[.slice qc.sa qc.sn qc.sc, .slice qc.ra qc.rn qc.rc, .slice qc.wa qc.wn qc.tc, .slice qc.va qc.vn qc.vc] 29))) := HQ4.out.below hbn
      have x0 := ext_cell hbn x0
      have x1 := ext_cell hbn x1
      have x2 := ext_cell hbn x2
      have x3 := ext_cell hbn x3
      have k0 : (w5.alloc (.cells #[.slice qc.sa qc.sn qc.sc, .slice qc.ra qc.rn qc.rc, .slice qc.wa qc.wn qc.tc, .slice qc.va qc.vn qc.vc] 29)).cell? ⟨w5.heap.size, 0, none⟩ = some (.slice qc.sa qc.sn qc.sc) := at_new _ _ 29 _ 0 _ rfl rfl
      have k1 : (w5.alloc (.cells #[.slice qc.sa qc.sn qc.sc, .slice qc.ra qc.rn qc.rc, .slice qc.wa qc.wn qc.tc, .slice qc.va qc.vn qc.vc] 29)).cell? ⟨w5.heap.size, 1, none⟩ = some (.slice qc.ra qc.rn qc.rc) := at_new _ _ 29 _ 1 _ rfl rfl
      have k2 : (w5.alloc (.cells #[.slice qc.sa qc.sn qc.sc, .slice qc.ra qc.rn qc.rc, .slice qc.wa qc.wn qc.tc, .slice qc.va qc.vn qc.vc] 29)).cell? ⟨w5.heap.size, 2, none⟩ = some (.slice qc.wa qc.wn qc.tc) := at_new _ _ 29 _ 2 _ rfl rfl
      have k3 : (w5.alloc (.cells #[.slice qc.sa qc.sn qc.sc, .slice qc.ra qc.rn qc.rc, .slice qc.wa qc.wn qc.tc, .slice qc.va qc.vn qc.vc] 29)).cell? ⟨w5.heap.size, 3, none⟩ = some (.slice qc.va qc.vn qc.vc) := at_new _ _ 29 _ 3 _ rfl rfl
      clear gA hb5 hq hbn p0 p1 q0 q1 q2 q3 r0 r1 r2 HQ4 BR C1
      go_upto_region 36 with fail
      generalize (w5.alloc (.cells #[.slice qc.sa qc.sn qc.sc, .slice qc.ra qc.rn qc.rc, .slice qc.wa qc.wn qc.tc, .slice qc.va qc.vn qc.vc] 29)) = V5 at *
      generalize w5.heap.size = b5 at *
      obtain ⟨p0, p1, q0, q1, q2, q3, r0, r1, r2⟩ := KEEP.out V5 B5.out
      go_wp2_with fail
      refine (C2.out _ B5.out).mono ?_
      rintro e w6 ⟨qd, rfl, hq, hb6⟩
      have gA : Below w6.heap.size w6 (w6.alloc (.cells #[.slice qd.sa qd.sn qd.sc, .slice qd.ra qd.rn qd.rc, .slice qd.wa qd.wn qd.tc, .slice qd.va qd.vn qd.vc] 29)) := grow_alloc (Below.refl _ _) _
      have hbn : Below V5.heap.size V5 (w6.alloc (.cells #[.slice qd.sa qd.sn qd.sc, .slice qd.ra qd.rn qd.rc, .slice qd.wa qd.wn qd.tc, .slice qd.va qd.vn qd.vc] 29)) := grow_trans hb6 gA
      have B6 : Hid (Below W.heap.size W (w6.alloc (.cells #[.slice qd.sa qd.sn qd.sc, .slice qd.ra qd.rn qd.rc, .slice qd.wa qd.wn qd.tc, .slice qd.va qd.vn qd.vc] 29))) := grow_trans B5.out hbn
      have HD6 : Hid (StaQ S1 qd (w6.alloc (.cells #[.slice qd.sa qd.sn qd.sc, .slice qd.ra qd.rn qd.rc, .slice qd.wa qd.wn qd.tc, .slice qd.va qd.vn qd.vc] 29))) := hq.sta.below gA
      have HC6 : Hid (StaQ S1 qc (w6.alloc (.cells #[.slice qd.sa qd.sn qd.sc, .slice qd.ra qd.rn qd.rc, .slice qd.wa qd.wn qd.tc, .slice qd.va qd.vn qd.vc] 29))) := HC5.out.below hbn
      have HQ6 : Hid (StaQ S q0' (w6.alloc (.cells #[.slice qd.sa qd.sn qd.sc, .slice qd.ra qd.rn qd.rc, .slice qd.wa qd.wn qd.tc, .slice qd.va qd.vn qd.vc] 29))) := HQ5.out.below hbn
      have x0 := ext_cell hbn x0
      have x1 := ext_cell hbn x1
      have x2 := ext_cell hbn x2
      have x3 := ext_cell hbn x3
      have k0 := ext_cell hbn k0
      have k1 := ext_cell hbn k1
      have k2 := ext_cell hbn k2
      have k3 := ext_cell hbn k3
      have m0 : (w6.alloc (.cells #[.slice qd.sa qd.sn qd.sc, .slice qd.ra qd.rn qd.rc, .slice qd.wa qd.wn qd.tc, .slice qd.va qd.vn qd.vc] 29)).cell? ⟨w6.heap.size, 0, none⟩ = some (.slice qd.sa qd.sn qd.sc) := at_new _ _ 29 _ 0 _ rfl rfl
      have m1 : (w6.alloc (.cells #[.slice qd.sa qd.sn qd.sc, .slice qd.ra qd.rn qd.rc, .slice qd.wa qd.wn qd.tc, .slice qd.va qd.vn qd.vc] 29)).cell? ⟨w6.heap.size, 1, none⟩ = some (.slice qd.ra qd.rn qd.rc) := at_new _ _ 29 _ 1 _ rfl rfl
      have m2 : (w6.alloc (.cells #[.slice qd.sa qd.sn qd.sc, .slice qd.ra qd.rn qd.rc, .slice qd.wa qd.wn qd.tc, .slice qd.va qd.vn qd.vc] 29)).cell? ⟨w6.heap.size, 2, none⟩ = some (.slice qd.wa qd.wn qd.tc) := at_new _ _ 29 _ 2 _ rfl rfl
      have m3 : (w6.alloc (.cells #[.slice qd.sa qd.sn qd.sc, .slice qd.ra qd.rn qd.rc, .slice qd.wa qd.wn qd.tc, .slice qd.va qd.vn qd.vc] 29)).cell? ⟨w6.heap.size, 3, none⟩ = some (.slice qd.va qd.vn qd.vc) := at_new _ _ 29 _ 3 _ rfl rfl
      clear gA hb6 hq hbn p0 p1 q0 q1 q2 q3 r0 r1 r2 HQ5 HC5 B5 C2
      go_upto_region 37 with fail
      generalize (w6.alloc (.cells #[.slice qd.sa qd.sn qd.sc, .slice qd.ra qd.rn qd.rc, .slice qd.wa qd.wn qd.tc, .slice qd.va qd.vn qd.vc] 29)) = V6 at *
      generalize w6.heap.size = b6 at *
      go_wp2_with fail
      refine (HBB.out _).mono ?_
      rintro e w7 ⟨rfl, hbx⟩
      have B7 : Hid (Below W.heap.size W w7) := grow_trans B6.out hbx
      have HD7 : Hid (StaQ S1 qd w7) := HD6.out.below hbx
      have HC7 : Hid (StaQ S1 qc w7) := HC6.out.below hbx
      have HQ7 : Hid (StaQ S q0' w7) := HQ6.out.below hbx
      have x0 := ext_cell hbx x0
      have x1 := ext_cell hbx x1
      have x2 := ext_cell hbx x2
      have x3 := ext_cell hbx x3
      have k0 := ext_cell hbx k0
      have k1 := ext_cell hbx k1
      have k2 := ext_cell hbx k2
      have k3 := ext_cell hbx k3
      have m0 := ext_cell hbx m0
      have m1 := ext_cell hbx m1
      have m2 := ext_cell hbx m2
      have m3 := ext_cell hbx m3
      clear hbx HD6 HC6 HQ6 B6
      obtain ⟨p0, p1, q0, q1, q2, q3, r0, r1, r2⟩ := KEEP.out w7 B7.out
      go_wp2_with fail
      refine (CS.out q0' w7 B7.out HQ7.out).mono ?_
      rintro e w8 ⟨rfl, hbx⟩
      have B8 : Hid (Below W.heap.size W w8) := grow_trans B7.out hbx
      have HD8 : Hid (StaQ S1 qd w8) := HD7.out.below hbx
      have HC8 : Hid (StaQ S1 qc w8) := HC7.out.below hbx
      have k0 := ext_cell hbx k0
      have k1 := ext_cell hbx k1
      have k2 := ext_cell hbx k2
      have k3 := ext_cell hbx k3
      have m0 := ext_cell hbx m0
      have m1 := ext_cell hbx m1
      have m2 := ext_cell hbx m2
      have m3 := ext_cell hbx m3
      clear hbx HD7 HC7 HQ7 B7 p0 p1 q0 q1 q2 q3 r0 r1 r2 x0 x1 x2 x3
      go_wp2_with fail
      refine (CE.out qc qd w8 HC8.out HD8.out).mono ?_
      rintro e w9 ⟨rfl, hbx⟩
      have B9 : Hid (Below w.heap.size w w9) := grow_trans HG.out (grow_trans B8.out hbx)
      clear hbx
      go_wp2
      go_ret
      exact ⟨by simp, B9.out⟩
end Go.Proofs.YtebjkmknhpgemaaGreat
