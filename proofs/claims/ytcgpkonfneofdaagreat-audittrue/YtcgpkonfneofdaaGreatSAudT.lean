/-
  
  Conditions: those that each theorem states.
-/
import Derived.Test.YtcgpkonfneofdaaGreatSPlayF
import Derived.Test.YtcgpkonfneofdaaGreatSAudS
set_option maxRecDepth 100000
namespace Go.Proofs.YtcgpkonfneofdaaGreat
open Go.RowKit Go.ChangeShapes Go.WideShapes Go.ChangeAt Go.Deep
theorem open_pk {H : Type} {enc : TypeId × Value → H} {W : World} {base : Nat} {v : Value} {d : DataW H} {p : List MemPlace} (hv : Value.okWide Tryz.prog W .any base 25 v) (h : DataW.Trod enc Tryz.prog W 0 (fun _ => true) true 25 v d p) :
  ∃ (a : Option Addr) (zs : List Int) (cap : Nat), v = .slice a zs.length cap ∧ zs.length ≤ maxLen ∧ IsInts W a zs ∧ (∀ z ∈ zs, (Lit.int .i64 z).wf = true) ∧ zs.length ≤ cap := by
 obtain ⟨a, len, cap, rfl⟩ := okWide_slice Tryz.underlying25 hv
 obtain ⟨fuel, hf⟩ := h
 rcases open_ints Tryz.underlying25 Tryz.underlying3 (by kernel_rfl) hf with ⟨hcs, _⟩ | ⟨x, l, c, zs, hcs, _, hl, hm, hz, _, hcell, hwz⟩
 ·simp [Value.cells] at hcs
  obtain ⟨rfl, rfl, rfl⟩ := hcs
  exact ⟨none, [], 0, rfl, by simp, fun i hi => by simp at hi, by simp, by simp⟩
 ·simp [Value.cells] at hcs
  obtain ⟨rfl, rfl, rfl⟩ := hcs
  have hzl : (zs.take len).length = len := by rw [List.length_take]; simp at hz; omega
  refine ⟨some x, zs.take len, cap, by rw [hzl], by rw [hzl]; omega, fun i hi => ?_, fun z hz' => hwz z (List.mem_of_mem_take hz'), by rw [hzl]; omega⟩
  have hi' : i < len := by omega
  have hc := hcell i (by simp at hz; omega)
  obtain ⟨b, off, spot⟩ := x
  have hspot : spot = none := by simpa [Addr.add] using World.cell?_spot (hcell 0 (by simp at hz; omega))
  subst hspot
  have hc0 : W.cell? ⟨b, off + i, none⟩ = some (.int .i64 (zs.getD i 0)) := by
   rw [← hc]
   by_cases h0 : i = 0
   ·subst h0; simp [Addr.add]
   ·simp [Addr.add, h0]
  refine ⟨b, off, rfl, World.block_lt_of_cell? W _ hc0, ?_⟩
  rw [hc0]
  simp [List.getD, hi']
theorem resL_few {m : Int} {l : List TxA} {S : SA} (h : stE m l S = 0) : ∀ r ∈ resL l S l.length, r.2.length ≤ 100 := by
 obtain ⟨sh, rfl, _, _, hc, _, hf, _⟩ := stE_zero h
 intro r hr
 unfold resL at hr
 obtain ⟨n, hn, rfl⟩ := List.mem_map.1 hr
 have hn' : n < l.length := List.mem_range.1 hn
 have h1 := (formB_iff.1 hf).vn n hn'
 have h2 : (gX l n).rs.length ≤ 4 := (many_small _ _ _ (chk_parts (chkL_in hc n hn')).1).1
 show (S.vs.getD n []).length ≤ 100
 omega
structure Played (m : Int) (l : List TxA) (s pk : List Int) : Prop where
 ser : serE s l = 0
 st : (playS m l s pk).st = serEnd s l
 re : rsE m l (playS m l s pk) = 0
 rl : rsL m l (playS m l s pk) = serRes s l
 few : ∀ r ∈ serRes s l, r.2.length ≤ 100
 len : l.length ≤ 8
 s8 : s.length = 8
 cnt : playN m l s pk = cntAll m.toNat l
 n64 : cntAll m.toNat l ≤ 64
theorem played {m : Int} {l : List TxA} {s pk : List Int} (h : playE m l s pk = 0) : Played m l s pk := by
 have hb : begE m l s = 0 := firstNZ_zero _ h 0
 have e : playS m l s pk = endX m.toNat l pk s := if_pos h
 obtain ⟨hp, h8⟩ := beg_zero hb
 obtain ⟨h1, h4, hc⟩ := planE_zero hp
 have W := way_of (pk := pk) hb
 obtain ⟨e1, e2, _, _⟩ := end_same pk (sh := m.toNat) (by omega) h8 (fun n hn => good_of (chkL_in hc n hn))
 have st0 : stE m l (endX m.toNat l pk s) = 0 := W.st _ (Nat.le_refl _)
 have ov0 : ovE m l (endX m.toNat l pk s) = true := (W.ov _ (Nat.le_refl _)).trans (decide_eq_true rfl)
 have re0 : rsE m l (endX m.toNat l pk s) = 0 := by unfold rsE; rw [if_pos st0, ov0]; rfl
 have rl0 : resL l (endX m.toNat l pk s) l.length = serRes s l := e2
 have fw := resL_few st0
 rw [rl0] at fw
 refine ⟨?_, by rw [e]; exact e1, by rw [e]; exact re0, ?_, fw, chkL_len hc, h8, if_pos h, W.n⟩
 ·unfold serE lenE
  rw [if_pos h8, hc]
  rfl
 ·rw [e]
  unfold rsL
  rw [if_pos re0, rl0]
variable (la : Option Addr) (lc : Nat) (l : List TxA) (sa : Option Addr) (sc : Nat) (s : List Int) (pa : Option Addr) (pc : Nat) (pk : List Int)
end Go.Proofs.YtcgpkonfneofdaaGreat
namespace Go.Proofs.YtcgpkonfneofdaaGreat
open Go.RowKit
variable (la : Option Addr) (lc : Nat) (l : List TxA) (sa : Option Addr) (sc : Nat) (s : List Int) (pa : Option Addr) (pc : Nat) (pk : List Int)
set_option maxHeartbeats 4000000 in
theorem auditTrue_bad (m n key : Int) (w : World) (hl : IsTxs w la l) (hs : IsInts w sa s) (hp : IsInts w pa pk) (hw : ∀ i, i < pk.length → (Lit.int .i64 (pk.getD i 0)).wf = true) (hpc : pk.length ≤ pc) (hE : ¬ playE m l s pk = 0) :
  Calls Tryz.prog 3 #[.agg #[.int .i64 m, .slice la l.length lc], .slice sa s.length sc, .slice pa pk.length pc, .int .i64 n, .int .i64 key] w fun e w' => e = .returned (.bool true) ∧ Below w.heap.size w w' := by
 obtain ⟨W, hWe⟩ : ∃ W : World, W = (w.alloc (.cells #[.int .i64 m, .slice la l.length lc] 24)) := ⟨_, rfl⟩
 have gW : Hid (Below w.heap.size w W) := by subst hWe; exact grow_alloc (Below.refl _ _) _
 have p0 : W.cell? ⟨w.heap.size, 0, none⟩ = some (.int .i64 m) := by subst hWe; exact at_new _ _ 24 _ 0 _ rfl rfl
 have p1 : W.cell? ⟨w.heap.size, 1, none⟩ = some (.slice la l.length lc) := by subst hWe; exact at_new _ _ 24 _ 1 _ rfl rfl
 have HL : Hid (IsTxs W la l) := hl.below gW.out
 have CP : Hid (Calls Tryz.prog 4 #[.agg #[.int .i64 m, .slice la l.length lc], .slice sa s.length sc, .slice pa pk.length pc] W fun e w' => ∃ q : Q4, e = .returned (.tuple #[.agg #[.slice q.sa q.sn q.sc, .slice q.ra q.rn q.rc, .slice q.wa q.wn q.tc, .slice q.va q.vn q.vc], .int .i64 (playN m l s pk : Nat), .int .i64 (playE m l s pk)]) ∧ StaF W.heap.size (playS m l s pk) q w' ∧ Below W.heap.size W w') := play_any la lc l sa sc s pa pc pk m _ HL.out (hs.below gW.out) (hp.below gW.out) hpc hw
 clear hl hs hp hw hpc
 have hb : (playE m l s pk != 0) = true := by simpa using hE
 generalize playN m l s pk = NN at *
 generalize playE m l s pk = E at *
 generalize playS m l s pk = S at *
 have HWe : Hid (W = _) := hWe
 clear hWe
 go_enter Tryz.func3, Tryz.ntmps3
 go_upto_region 1 with fail
 rw [← HWe.out]
 clear HWe
 go_wp2_with fail
 refine CP.out.mono ?_
 rintro e w1 ⟨q, rfl, hq, hb1⟩
 have gA : Below w1.heap.size w1 (w1.alloc (.cells #[.slice q.sa q.sn q.sc, .slice q.ra q.rn q.rc, .slice q.wa q.wn q.tc, .slice q.va q.vn q.vc] 29)) := grow_alloc (Below.refl _ _) _
 have gV : Hid (Below W.heap.size W (w1.alloc (.cells #[.slice q.sa q.sn q.sc, .slice q.ra q.rn q.rc, .slice q.wa q.wn q.tc, .slice q.va q.vn q.vc] 29))) := grow_trans hb1 gA
 have p0 := ext_cell gV.out p0
 have p1 := ext_cell gV.out p1
 have HQ : Hid (StaQ S q (w1.alloc (.cells #[.slice q.sa q.sn q.sc, .slice q.ra q.rn q.rc, .slice q.wa q.wn q.tc, .slice q.va q.vn q.vc] 29))) := hq.sta.below gA
 have k0 : (w1.alloc (.cells #[.slice q.sa q.sn q.sc, .slice q.ra q.rn q.rc, .slice q.wa q.wn q.tc, .slice q.va q.vn q.vc] 29)).cell? ⟨w1.heap.size, 0, none⟩ = some (.slice q.sa q.sn q.sc) := at_new _ _ 29 _ 0 _ rfl rfl
 have k1 : (w1.alloc (.cells #[.slice q.sa q.sn q.sc, .slice q.ra q.rn q.rc, .slice q.wa q.wn q.tc, .slice q.va q.vn q.vc] 29)).cell? ⟨w1.heap.size, 1, none⟩ = some (.slice q.ra q.rn q.rc) := at_new _ _ 29 _ 1 _ rfl rfl
 have k2 : (w1.alloc (.cells #[.slice q.sa q.sn q.sc, .slice q.ra q.rn q.rc, .slice q.wa q.wn q.tc, .slice q.va q.vn q.vc] 29)).cell? ⟨w1.heap.size, 2, none⟩ = some (.slice q.wa q.wn q.tc) := at_new _ _ 29 _ 2 _ rfl rfl
 have k3 : (w1.alloc (.cells #[.slice q.sa q.sn q.sc, .slice q.ra q.rn q.rc, .slice q.wa q.wn q.tc, .slice q.va q.vn q.vc] 29)).cell? ⟨w1.heap.size, 3, none⟩ = some (.slice q.va q.vn q.vc) := at_new _ _ 29 _ 3 _ rfl rfl
 clear hq hb1 gA CP
 go_upto_region 2 with fail
 generalize (w1.alloc (.cells #[.slice q.sa q.sn q.sc, .slice q.ra q.rn q.rc, .slice q.wa q.wn q.tc, .slice q.va q.vn q.vc] 29)) = V at *
 generalize w1.heap.size = b1 at *
 go_wp2_with fail
 refine (results_any la lc l q S m _ (HL.out.below gV.out) HQ.out).mono ?_
 rintro e w2 ⟨xa, xc, rfl, _, hb2⟩
 have B2 : Hid (Below w.heap.size w w2) := grow_trans gW.out (grow_trans gV.out hb2)
 clear hb2 p0 p1 k0 k1 k2 k3
 go_wp2_with fail
 refine (auditBegun_any _).mono ?_
 rintro e w3 ⟨rfl, hb3⟩
 have B3 : Hid (Below w.heap.size w w3) := grow_trans B2.out hb3
 clear hb3
 go_wp2
 go_ret
 exact ⟨rfl, B3.out⟩
end Go.Proofs.YtcgpkonfneofdaaGreat
