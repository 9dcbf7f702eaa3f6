/-
  
  Conditions: those that each theorem states.
-/
import Derived.Test.YtebjkmknhpgemaaGreatUPlayL
namespace Go.Proofs.YtebjkmknhpgemaaGreat
open Go.RowKit Go.ChangeShapes Go.WideShapes Go.ChangeAt Go.Deep
theorem staQ_eq2 {S : SA} {q y : Q4} {w : World} (hq : StaQ S q w) (hy : StaQ S y w) (h : S.st.length ≤ 100 ∧ S.rd.length ≤ 100 ∧ S.wr.length ≤ 100 ∧ S.vs.length ≤ 100 ∧ ∀ i, (S.rd.getD i []).length ≤ 100 ∧ (S.wr.getD i []).length ≤ 100 ∧ (S.vs.getD i []).length ≤ 100) :
  Calls Tryz.prog 21 #[.agg #[.slice q.sa q.sn q.sc, .slice q.ra q.rn q.rc, .slice q.wa q.wn q.tc, .slice q.va q.vn q.vc], .agg #[.slice y.sa y.sn y.sc, .slice y.ra y.rn y.rc, .slice y.wa y.wn y.tc, .slice y.va y.vn y.vc]] w fun e w' => e = .returned (.bool true) ∧ Below w.heap.size w w' := by
 obtain ⟨e1, e2, e3, e4, hs⟩ := hq
 obtain ⟨f1, f2, f3, f4, ht⟩ := hy
 rw [e1, e2, e3, e4, f1, f2, f3, f4]
 obtain ⟨a1, a2, a3, a4, a5⟩ := h
 exact pE q.sa q.ra q.wa q.va y.sa y.ra y.wa y.va q.sc q.rc q.tc q.vc y.sc y.rc y.tc y.vc S w hs ht a1 a2 a3 a4 a5
theorem play_small (m : Int) (l : List TxA) (s pk : List Int) : (cR m l s pk).st.length ≤ 100 ∧ (cR m l s pk).rd.length ≤ 100 ∧ (cR m l s pk).wr.length ≤ 100 ∧ (cR m l s pk).vs.length ≤ 100 ∧ ∀ i, ((cR m l s pk).rd.getD i []).length ≤ 100 ∧ ((cR m l s pk).wr.getD i []).length ≤ 100 ∧ ((cR m l s pk).vs.getD i []).length ≤ 100 := by
 by_cases h : cW m l s pk = 0
 ·have e : cR m l s pk = iJ m.toNat l pk s := if_pos h
  have hb : dX m l s = 0 := bJ _ h 0
  rw [e]
  exact small_st ((lV (pk := pk) hb).st _ (Nat.le_refl _))
 ·have e : cR m l s pk = SNil := if_neg h
  rw [e]
  exact small_nil
variable (la : Option Addr) (lc : Nat) (l : List TxA) (sa : Option Addr) (sc : Nat) (s : List Int) (pa : Option Addr) (pc : Nat) (pk : List Int)
set_option maxRecDepth 100000 in
set_option maxHeartbeats 4000000 in
theorem oE (m : Int) (w : World) (hl : IsTxs w la l) (hs : IsInts w sa s) (hp : IsInts w pa pk) (hw : ∀ i, i < pk.length → (Lit.int .i64 (pk.getD i 0)).wf = true) (hpc : pk.length ≤ pc) :
  Calls Tryz.prog 8 #[.agg #[.int .i64 m, .slice la l.length lc], .slice sa s.length sc, .slice pa pk.length pc] w fun e w' => e = .returned (.bool true) ∧ Below w.heap.size w w' := by
 obtain ⟨W, hWe⟩ : ∃ W : World, W = (w.alloc (.cells #[.int .i64 m, .slice la l.length lc] 24)) := ⟨_, rfl⟩
 have gW : Hid (Below w.heap.size w W) := by subst hWe; exact aB (Below.refl _ _) _
 have p0 : W.cell? ⟨w.heap.size, 0, none⟩ = some (.int .i64 m) := by subst hWe; exact aE _ _ 24 _ 0 _ rfl rfl
 have p1 : W.cell? ⟨w.heap.size, 1, none⟩ = some (.slice la l.length lc) := by subst hWe; exact aE _ _ 24 _ 1 _ rfl rfl
 have C1 : Hid (Calls Tryz.prog 30 #[.agg #[.int .i64 m, .slice la l.length lc], .slice sa s.length sc, .slice pa pk.length pc] W fun e w' => ∃ q : Q4, e = .returned (.tuple #[.agg #[.slice q.sa q.sn q.sc, .slice q.ra q.rn q.rc, .slice q.wa q.wn q.tc, .slice q.va q.vn q.vc], .int .i64 (gE m l s pk : Nat), .int .i64 (cW m l s pk)]) ∧ StaF W.heap.size (cR m l s pk) q w' ∧ Below W.heap.size W w') := play_any la lc l sa sc s pa pc pk m _ (hl.below gW.out) (hs.below gW.out) (hp.below gW.out) hpc hw
 have C2 : Hid (∀ w', Below W.heap.size W w' → Calls Tryz.prog 31 #[.agg #[.int .i64 m, .slice la l.length lc], .slice sa s.length sc, .slice pa pk.length pc] w' fun e w'' => ∃ q : Q4, e = .returned (.tuple #[.agg #[.slice q.sa q.sn q.sc, .slice q.ra q.rn q.rc, .slice q.wa q.wn q.tc, .slice q.va q.vn q.vc], .int .i64 (gE m l s pk : Nat), .int .i64 (cW m l s pk)]) ∧ StaF w'.heap.size (cR m l s pk) q w'' ∧ Below w'.heap.size w' w'') := fun w' hb => docPlay_any la lc l sa sc s pa pc pk m w' ((hl.below gW.out).below hb) ((hs.below gW.out).below hb) ((hp.below gW.out).below hb) hw
 have SM : Hid _ := play_small m l s pk
 clear hl hs hp hw hpc
 generalize cR m l s pk = S at *
 generalize gE m l s pk = N at *
 generalize cW m l s pk = E at *
 have HWe : Hid (W = _) := hWe
 clear hWe
 go_enter Tryz.func8, Tryz.ntmps8
 go_upto_region 1 with fail
 rw [← HWe.out]
 clear HWe
 go_wp2_with fail
 refine C1.out.mono ?_
 rintro e w1 ⟨q, rfl, hq, hb1⟩
 have gA : Below w1.heap.size w1 (w1.alloc (.cells #[.slice q.sa q.sn q.sc, .slice q.ra q.rn q.rc, .slice q.wa q.wn q.tc, .slice q.va q.vn q.vc] 29)) := aB (Below.refl _ _) _
 have gV : Hid (Below W.heap.size W (w1.alloc (.cells #[.slice q.sa q.sn q.sc, .slice q.ra q.rn q.rc, .slice q.wa q.wn q.tc, .slice q.va q.vn q.vc] 29))) := aC hb1 gA
 have p0 := aA gV.out p0
 have p1 := aA gV.out p1
 have HQ : Hid (StaQ S q (w1.alloc (.cells #[.slice q.sa q.sn q.sc, .slice q.ra q.rn q.rc, .slice q.wa q.wn q.tc, .slice q.va q.vn q.vc] 29))) := hq.sta.below gA
 have k0 : (w1.alloc (.cells #[.slice q.sa q.sn q.sc, .slice q.ra q.rn q.rc, .slice q.wa q.wn q.tc, .slice q.va q.vn q.vc] 29)).cell? ⟨w1.heap.size, 0, none⟩ = some (.slice q.sa q.sn q.sc) := aE _ _ 29 _ 0 _ rfl rfl
 have k1 : (w1.alloc (.cells #[.slice q.sa q.sn q.sc, .slice q.ra q.rn q.rc, .slice q.wa q.wn q.tc, .slice q.va q.vn q.vc] 29)).cell? ⟨w1.heap.size, 1, none⟩ = some (.slice q.ra q.rn q.rc) := aE _ _ 29 _ 1 _ rfl rfl
 have k2 : (w1.alloc (.cells #[.slice q.sa q.sn q.sc, .slice q.ra q.rn q.rc, .slice q.wa q.wn q.tc, .slice q.va q.vn q.vc] 29)).cell? ⟨w1.heap.size, 2, none⟩ = some (.slice q.wa q.wn q.tc) := aE _ _ 29 _ 2 _ rfl rfl
 have k3 : (w1.alloc (.cells #[.slice q.sa q.sn q.sc, .slice q.ra q.rn q.rc, .slice q.wa q.wn q.tc, .slice q.va q.vn q.vc] 29)).cell? ⟨w1.heap.size, 3, none⟩ = some (.slice q.va q.vn q.vc) := aE _ _ 29 _ 3 _ rfl rfl
 clear hq hb1 gA C1
 go_upto_region 2 with fail
 generalize (w1.alloc (.cells #[.slice q.sa q.sn q.sc, .slice q.ra q.rn q.rc, .slice q.wa q.wn q.tc, .slice q.va q.vn q.vc] 29)) = V at *
 generalize w1.heap.size = b1 at *
 go_wp2_with fail
 refine (C2.out _ gV.out).mono ?_
 rintro e w2 ⟨y, rfl, hy, hb2⟩
 have gA : Below w2.heap.size w2 (w2.alloc (.cells #[.slice y.sa y.sn y.sc, .slice y.ra y.rn y.rc, .slice y.wa y.wn y.tc, .slice y.va y.vn y.vc] 29)) := aB (Below.refl _ _) _
 have gU : Below V.heap.size V (w2.alloc (.cells #[.slice y.sa y.sn y.sc, .slice y.ra y.rn y.rc, .slice y.wa y.wn y.tc, .slice y.va y.vn y.vc] 29)) := aC hb2 gA
 have BU : Hid (Below w.heap.size w (w2.alloc (.cells #[.slice y.sa y.sn y.sc, .slice y.ra y.rn y.rc, .slice y.wa y.wn y.tc, .slice y.va y.vn y.vc] 29))) := aC gW.out (aC gV.out gU)
 have HY : Hid (StaQ S y (w2.alloc (.cells #[.slice y.sa y.sn y.sc, .slice y.ra y.rn y.rc, .slice y.wa y.wn y.tc, .slice y.va y.vn y.vc] 29))) := hy.sta.below gA
 have HQ : Hid (StaQ S q (w2.alloc (.cells #[.slice y.sa y.sn y.sc, .slice y.ra y.rn y.rc, .slice y.wa y.wn y.tc, .slice y.va y.vn y.vc] 29))) := HQ.out.below gU
 have k0 := aA gU k0
 have k1 := aA gU k1
 have k2 := aA gU k2
 have k3 := aA gU k3
 have j0 : (w2.alloc (.cells #[.slice y.sa y.sn y.sc, .slice y.ra y.rn y.rc, .slice y.wa y.wn y.tc, .slice y.va y.vn y.vc] 29)).cell? ⟨w2.heap.size, 0, none⟩ = some (.slice y.sa y.sn y.sc) := aE _ _ 29 _ 0 _ rfl rfl
 have j1 : (w2.alloc (.cells #[.slice y.sa y.sn y.sc, .slice y.ra y.rn y.rc, .slice y.wa y.wn y.tc, .slice y.va y.vn y.vc] 29)).cell? ⟨w2.heap.size, 1, none⟩ = some (.slice y.ra y.rn y.rc) := aE _ _ 29 _ 1 _ rfl rfl
 have j2 : (w2.alloc (.cells #[.slice y.sa y.sn y.sc, .slice y.ra y.rn y.rc, .slice y.wa y.wn y.tc, .slice y.va y.vn y.vc] 29)).cell? ⟨w2.heap.size, 2, none⟩ = some (.slice y.wa y.wn y.tc) := aE _ _ 29 _ 2 _ rfl rfl
 have j3 : (w2.alloc (.cells #[.slice y.sa y.sn y.sc, .slice y.ra y.rn y.rc, .slice y.wa y.wn y.tc, .slice y.va y.vn y.vc] 29)).cell? ⟨w2.heap.size, 3, none⟩ = some (.slice y.va y.vn y.vc) := aE _ _ 29 _ 3 _ rfl rfl
 clear hy hb2 gA gU C2 gV p0 p1
 go_upto_region 3 with fail
 generalize (w2.alloc (.cells #[.slice y.sa y.sn y.sc, .slice y.ra y.rn y.rc, .slice y.wa y.wn y.tc, .slice y.va y.vn y.vc] 29)) = U at *
 generalize w2.heap.size = b2 at *
 go_wp2_with fail
 refine (pF _).mono ?_
 rintro e w3 ⟨rfl, hb3⟩
 have k0 := aA hb3 k0
 have j0 := aA hb3 j0
 have k1 := aA hb3 k1
 have j1 := aA hb3 j1
 have k2 := aA hb3 k2
 have j2 := aA hb3 j2
 have k3 := aA hb3 k3
 have j3 := aA hb3 j3
 go_wp2_with fail
 refine (staQ_eq2 (HQ.out.below hb3) (HY.out.below hb3) SM.out).mono ?_
 rintro e w4 ⟨rfl, hb4⟩
 have B4 : Hid (Below w.heap.size w w4) := aC BU.out (aC hb3 hb4)
 clear hb3 hb4
 go_wp2
 go_ret
 exact ⟨rfl, B4.out⟩
end Go.Proofs.YtebjkmknhpgemaaGreat
