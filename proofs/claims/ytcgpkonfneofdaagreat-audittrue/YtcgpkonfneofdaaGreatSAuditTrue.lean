/-
  what was played shard by shard stands at the audit; a store that is spoilt is found, a result that is spoilt too, where it is (AuditTrue).
  Conditions: none beyond the form's own (the arguments can be read).
-/
import Derived.Test.YtcgpkonfneofdaaGreatSAudT
set_option maxRecDepth 100000
namespace Go.Proofs.YtcgpkonfneofdaaGreat
open Go.RowKit
variable (la : Option Addr) (lc : Nat) (l : List TxA) (sa : Option Addr) (sc : Nat) (s : List Int) (pa : Option Addr) (pc : Nat) (pk : List Int)
theorem chK_8 (key : Int) (hkey : (Lit.int .i64 key).wf = true) : (key < 0 ∧ (wrap64 (-wrap64 (key + 1))).tmod 8 = ((chK key 8 : Nat) : Int)) ∨ (0 ≤ key ∧ key % 8 = ((chK key 8 : Nat) : Int)) := by
 obtain ⟨c1, c2⟩ := wf_bounds hkey
 unfold chK
 by_cases h : key < 0
 ·refine Or.inl ⟨h, ?_⟩
  rw [if_pos h]
  have e : wrap64 (-wrap64 (key + 1)) = -(key + 1) := by unfold wrap64; omega
  rw [e, Int.tmod_eq_emod_of_nonneg (by omega)]
  omega
 ·refine Or.inr ⟨by omega, ?_⟩
  rw [if_neg h]
  omega
set_option maxHeartbeats 4000000 in
theorem auditTrue_ok (m n key : Int) (w : World) (hl : IsTxs w la l) (hs : IsInts w sa s) (hp : IsInts w pa pk) (hw : ∀ i, i < pk.length → (Lit.int .i64 (pk.getD i 0)).wf = true) (hpc : pk.length ≤ pc) (hn : (Lit.int .i64 n).wf = true) (hkey : (Lit.int .i64 key).wf = true) (hE : playE m l s pk = 0) :
  Calls Tryz.prog 3 #[.agg #[.int .i64 m, .slice la l.length lc], .slice sa s.length sc, .slice pa pk.length pc, .int .i64 n, .int .i64 key] w fun e w' => e = .returned (.bool true) ∧ Below w.heap.size w w' := by
 obtain ⟨i0, hi, hz0, hz1, hz2⟩ := info_parts Tryz.info3
 obtain ⟨i4, hi4, hy0, hy1, hy2⟩ := info_parts Tryz.info41
 obtain ⟨W, hWe⟩ : ∃ W : World, W = (w.alloc (.cells #[.int .i64 m, .slice la l.length lc] 24)) := ⟨_, rfl⟩
 have gW : Hid (Below w.heap.size w W) := by subst hWe; exact grow_alloc (Below.refl _ _) _
 have p0 : W.cell? ⟨w.heap.size, 0, none⟩ = some (.int .i64 m) := by subst hWe; exact at_new _ _ 24 _ 0 _ rfl rfl
 have p1 : W.cell? ⟨w.heap.size, 1, none⟩ = some (.slice la l.length lc) := by subst hWe; exact at_new _ _ 24 _ 1 _ rfl rfl
 have HL : Hid (IsTxs W la l) := hl.below gW.out
 have HS : Hid (IsInts W sa s) := hs.below gW.out
 have CP : Hid (Calls Tryz.prog 4 #[.agg #[.int .i64 m, .slice la l.length lc], .slice sa s.length sc, .slice pa pk.length pc] W fun e w' => ∃ q : Q4, e = .returned (.tuple #[.agg #[.slice q.sa q.sn q.sc, .slice q.ra q.rn q.rc, .slice q.wa q.wn q.tc, .slice q.va q.vn q.vc], .int .i64 (playN m l s pk : Nat), .int .i64 (playE m l s pk)]) ∧ StaF W.heap.size (playS m l s pk) q w' ∧ Below W.heap.size W w') := play_any la lc l sa sc s pa pc pk m _ HL.out HS.out (hp.below gW.out) hpc hw
 have PD : Hid (Played m l s pk) := played hE
 rw [hE] at CP
 have CA : Hid (∀ en r (ea ra : Option Addr) (ec rc : Nat) (v : Int), audE s l en r = 0 → audV s l en r = v → ∀ w', Below W.heap.size W w' → IsInts w' ea en → IsRes w' ra r → Calls Tryz.prog 7 #[.slice sa s.length sc, .slice la l.length lc, .slice ea en.length ec, .slice ra r.length rc] w' fun e w'' => e = .returned (.tuple #[.int .i64 v, .int .i64 0]) ∧ Below w'.heap.size w' w'') := fun en r ea ra ec rc v h1 h2 w' hb he hr => by
  have h := audit_any sa la ea ra sc lc ec rc s l en r w' (HS.out.below hb) (HL.out.below hb) he hr
  rw [h1, h2] at h
  exact h
 have hser := PD.out.ser
 have HSE : Hid (serE s l = 0) := hser
 have len1 : (serEnd s l).length = 8 := by rw [serEnd_len]; exact PD.out.s8
 have len2 : (serRes s l).length = l.length := serRes_len _ _
 have hl8 := PD.out.len
 have A1 : Hid (audE s l (serEnd s l) (serRes s l) = 0) := audE_right hser len1 len2
 have A2 : Hid (audV s l (serEnd s l) (serRes s l) = -1) := audV_stands hser
 have A3 : Hid (∀ en : List Int, en.length = 8 → ¬ serEnd s l = en → audE s l en (serRes s l) = 0 ∧ audV s l en (serRes s l) = (l.length : Nat)) := fun en h1 h2 => ⟨audE_right hser h1 len2, audV_store hser h1 h2⟩
 have A4 : Hid (∀ i, i < l.length → audE s l (serEnd s l) ((serRes s l).set i (!((serRes s l).getD i (false, [])).1, ((serRes s l).getD i (false, [])).2)) = 0 ∧ audV s l (serEnd s l) ((serRes s l).set i (!((serRes s l).getD i (false, [])).1, ((serRes s l).getD i (false, [])).2)) = (i : Nat)) := fun i hi => ⟨audE_right hser len1 (by rw [List.length_set]; exact len2), audV_result hser hi⟩
 clear hl hs hp hw hpc hE hser
 have HWe : Hid (W = _) := hWe
 clear hWe
 go_enter Tryz.func3, Tryz.ntmps3
 go_upto_region 1 with fail
 rw [← HWe.out]
 clear HWe
 go_wp2_with fail
 refine CP.out.mono ?_
 rintro e w1 ⟨q, rfl, hq, hb1⟩
 have gA : Below w1.heap.size w1 (w1.alloc (.cells #[.slice q.sa q.sn q.sc, .slice q.ra q.rn q.rc, .slice q.wa q.wn q.tc, .slice q.va q.vn q.vc] 29)) := grow_alloc (Below.refl _ _) _
 have gV : Hid (Below W.heap.size W (w1.alloc (.cells #[.slice q.sa q.sn q.sc, .slice q.ra q.rn q.rc, .slice q.wa q.wn q.tc, .slice q.va q.vn q.vc] 29))) := grow_trans hb1 gA
 have p0 := ext_cell gV.out p0
 have p1 := ext_cell gV.out p1
 have HQ : Hid (StaQ (playS m l s pk) q (w1.alloc (.cells #[.slice q.sa q.sn q.sc, .slice q.ra q.rn q.rc, .slice q.wa q.wn q.tc, .slice q.va q.vn q.vc] 29))) := hq.sta.below gA
 have ESN : Hid (q.sn = (serEnd s l).length) := hq.sta.1.trans (by rw [PD.out.st])
 have k0 : (w1.alloc (.cells #[.slice q.sa q.sn q.sc, .slice q.ra q.rn q.rc, .slice q.wa q.wn q.tc, .slice q.va q.vn q.vc] 29)).cell? ⟨w1.heap.size, 0, none⟩ = some (.slice q.sa q.sn q.sc) := at_new _ _ 29 _ 0 _ rfl rfl
 have k1 : (w1.alloc (.cells #[.slice q.sa q.sn q.sc, .slice q.ra q.rn q.rc, .slice q.wa q.wn q.tc, .slice q.va q.vn q.vc] 29)).cell? ⟨w1.heap.size, 1, none⟩ = some (.slice q.ra q.rn q.rc) := at_new _ _ 29 _ 1 _ rfl rfl
 have k2 : (w1.alloc (.cells #[.slice q.sa q.sn q.sc, .slice q.ra q.rn q.rc, .slice q.wa q.wn q.tc, .slice q.va q.vn q.vc] 29)).cell? ⟨w1.heap.size, 2, none⟩ = some (.slice q.wa q.wn q.tc) := at_new _ _ 29 _ 2 _ rfl rfl
 have k3 : (w1.alloc (.cells #[.slice q.sa q.sn q.sc, .slice q.ra q.rn q.rc, .slice q.wa q.wn q.tc, .slice q.va q.vn q.vc] 29)).cell? ⟨w1.heap.size, 3, none⟩ = some (.slice q.va q.vn q.vc) := at_new _ _ 29 _ 3 _ rfl rfl
 clear hq hb1 gA CP
 generalize playN m l s pk = NN at *
 go_upto_region 2 with fail
 generalize (w1.alloc (.cells #[.slice q.sa q.sn q.sc, .slice q.ra q.rn q.rc, .slice q.wa q.wn q.tc, .slice q.va q.vn q.vc] 29)) = V at *
 generalize w1.heap.size = b1 at *
 go_wp2_with fail
 refine (results_any la lc l q (playS m l s pk) m _ (HL.out.below gV.out) HQ.out).mono ?_
 rintro e w2 ⟨xa, xc, rfl, hx, hb2⟩
 rw [PD.out.re, PD.out.rl]
 rw [PD.out.rl] at hx
 have B2 : Hid (Below W.heap.size W w2) := grow_trans gV.out hb2
 have p1 := ext_cell hb2 p1
 have k0 := ext_cell hb2 k0
 rw [ESN.out] at k0
 have HI : Hid (IsInts w2 q.sa (serEnd s l)) := by
  have h := HQ.out.2.2.2.2.st.below hb2
  rw [PD.out.st] at h
  exact h
 have HX : Hid (IsRes w2 xa (serRes s l)) := hx
 have HLEN : Hid ((serEnd s l).length = 8) := len1
 have HRL : Hid ((serRes s l).length = l.length) := len2
 have HFW : Hid (∀ r ∈ serRes s l, r.2.length ≤ 100) := PD.out.few
 clear hb2 hx p0 k1 k2 k3 HQ ESN PD gV len1 len2 HSE
 generalize serEnd s l = E at *
 generalize serRes s l = R at *
 have e1 : (((E.length : Nat) : Int) != 8) = false := by rw [HLEN.out]; rfl
 have e2 : (((R.length : Nat) : Int) != ((l.length : Nat) : Int)) = false := by rw [HRL.out]; simp
 go_wp2_with fail
 refine (CA.out E R q.sa xa q.sc xc (-1) A1.out A2.out _ B2.out HI.out HX.out).mono ?_
 rintro e w3 ⟨rfl, hb3⟩
 have p1 := ext_cell hb3 p1
 have k0 := ext_cell hb3 k0
 have B3 : Hid (Below W.heap.size W w3) := grow_trans B2.out hb3
 have HI3 : Hid (IsInts w3 q.sa E) := HI.out.below hb3
 have HX3 : Hid (IsRes w3 xa R) := HX.out.below hb3
 clear hb3 HI HX B2 A1 A2
 obtain ⟨ib, io, eqa, _, _⟩ := HI3.out 0 (by rw [HLEN.out]; omega)
 have HEQ : Hid (q.sa = some ⟨ib, io, none⟩) := eqa
 rw [eqa] at k0 HI3
 clear eqa
 have P3 : Hid (w3.cell? ⟨w.heap.size, 1, none⟩ = some (.slice la l.length lc) ∧ w3.cell? ⟨b1, 0, none⟩ = some (.slice (some ⟨ib, io, none⟩) E.length q.sc)) := ⟨p1, k0⟩
 have hEl : E.length = 8 := HLEN.out
 have HI3a : Hid (IsInts (w3.alloc (.cells #[] 3)) (some ⟨ib, io, none⟩) E) := HI3.out.below (grow_alloc (Below.refl _ _) _)
 have HL8 : Hid (E.length ≤ 100) := by show _ ≤ _; omega
 have k0a : (w3.alloc (.cells #[] 3)).cell? ⟨b1, 0, none⟩ = some (.slice (some ⟨ib, io, none⟩) E.length q.sc) := ext_cell (grow_alloc (Below.refl _ _) _) k0
 clear hEl
 have hK8 := chK_lt key (show 0 < 8 by decide)
 have HCS : Hid ((key < 0 ∧ (wrap64 (-wrap64 (key + 1))).tmod 8 = ((chK key 8 : Nat) : Int)) ∨ (0 ≤ key ∧ key % 8 = ((chK key 8 : Nat) : Int))) := chK_8 key hkey
 generalize chK key 8 = K at *
 clear hkey
 rcases HCS.out with ⟨hng, hkk⟩ | ⟨hng, hkk⟩
 all_goals (
  go_wp2_with (first
   | (at_builtin; refine wpList_append_own _ rfl _ _ 25 rfl w3.heap.size 3 i0 (.int .i64 0) 1 8 Tryz.underlying25 hi hz0 hz1 hz2 rfl (by decide) _ 0 [] rfl (World.ownsRow_lit w3 #[] 0 (Nat.le_refl _) (by decide) rfl) ⟨ib, io, none⟩ E.length q.sc (E.map (Value.int .i64)) rfl (by simp) (newsA HI3a.out) (ints_oneCell .i64 E) (by have := HL8.out; unfold maxLen; omega) (by have := HL8.out; omega) (by simp) ?_; intro v' w5 hown' hgrow _)
   | go_in)
  have RB : Below w3.heap.size w3 w5 := (grow_alloc (Below.refl _ _) _).grown hgrow (by simp) (fun j hj => by have hj' : some w3.heap.size = some j := hj; injection hj' with hj'; exact Nat.le_of_eq hj')
  simp only [Nat.zero_add, List.nil_append] at hown'
  obtain ⟨g, cap, hv, hg1, hg2⟩ := hown'.form (by rw [HLEN.out]; omega)
  subst hv
  have HCE : Hid (∀ j, j < E.length → w5.cell? ⟨g, j, none⟩ = some (.int .i64 (E.getD j 0))) := fun j hj => by
   have h := hown'.cells (g := g) rfl j (.int .i64 (E.getD j 0)) (by simp [List.getD, hj])
   rw [add_none, Nat.zero_add] at h
   exact h
  have HFZ : Hid (∀ j, w5.frozen? ⟨g, j, none⟩ = false) := fun j => hown'.frozenAt j
  have ck := HCE.out K (by rw [HLEN.out]; exact hK8)
  have fk := HFZ.out K
  have iK : (K : Int) < (E.length : Int) := by rw [HLEN.out]; omega
  have p1 := ext_cell RB p1
  have k0 := ext_cell RB k0
  have B5 : Hid (Below W.heap.size W w5) := grow_trans B3.out RB
  have HG : Hid (W.heap.size ≤ g) := Nat.le_trans B3.out.size hg1
  have HG3 : Hid (w3.heap.size ≤ g) := hg1
  have RB' : Hid (Below w3.heap.size w3 w5) := RB
  obtain ⟨x, hxe⟩ : ∃ x, E.getD K 0 = x := ⟨_, rfl⟩
  rw [hxe] at ck
  clear hown' hgrow RB hg1 hg2 HI3a
  have HNE : Hid (¬ E = E.set K (wrap64 (x + 1))) := fun e => by
   have h := congrArg (fun z : List Int => z.getD K 0) e
   have hK' : K < E.length := by rw [HLEN.out]; exact hK8
   have e2 : (E.set K (wrap64 (x + 1))).getD K 0 = wrap64 (x + 1) := by simp [List.getD, hK']
   simp only [e2, hxe] at h
   unfold wrap64 at h
   omega
  obtain ⟨y, hy⟩ : ∃ y, wrap64 (x + 1) = y := ⟨_, rfl⟩
  rw [hy] at HNE
  have BU : Hid (Below W.heap.size W (w5.setCell ⟨g, K, none⟩ (.int .i64 y))) := grow_set B5.out HG.out _
  have BU3 : Hid (Below w3.heap.size w3 (w5.setCell ⟨g, K, none⟩ (.int .i64 y))) := grow_set RB'.out HG3.out _
  have HIe : Hid (IsInts (w5.setCell ⟨g, K, none⟩ (.int .i64 y)) (some ⟨g, 0, none⟩) (E.set K y)) := set_ints HCE.out (by rw [HLEN.out]; exact hK8)
  obtain ⟨a1, a2⟩ := A3.out (E.set K y) (by rw [List.length_set]; exact HLEN.out) HNE.out
  have CB : Hid (Calls Tryz.prog 7 #[.slice sa s.length sc, .slice la l.length lc, .slice (some ⟨g, 0, none⟩) E.length cap, .slice xa R.length xc] (w5.setCell ⟨g, K, none⟩ (.int .i64 y)) fun e w'' => e = .returned (.tuple #[.int .i64 (l.length : Nat), .int .i64 0]) ∧ Below (w5.setCell ⟨g, K, none⟩ (.int .i64 y)).heap.size (w5.setCell ⟨g, K, none⟩ (.int .i64 y)) w'') := by
   have h := CA.out (E.set K y) R (some ⟨g, 0, none⟩) xa cap xc _ a1 a2 _ BU.out HIe.out (HX3.out.below BU3.out)
   rw [List.length_set] at h
   exact h
  have u1 : (w5.setCell ⟨g, K, none⟩ (.int .i64 y)).cell? ⟨w.heap.size, 1, none⟩ = some (.slice la l.length lc) := ext_cell BU3.out P3.out.1
  have u0 : (w5.setCell ⟨g, K, none⟩ (.int .i64 y)).cell? ⟨b1, 0, none⟩ = some (.slice (some ⟨ib, io, none⟩) E.length q.sc) := ext_cell BU3.out P3.out.2
  go_simp
  go_upto_region 10 with fail
  try rw [hy]
  clear p1 k0 ck fk hxe a1 a2 HIe HCE HFZ hy HNE A3
  generalize (w5.setCell ⟨g, K, none⟩ (.int .i64 y)) = U at *
  go_wp2_with fail
  refine CB.out.mono ?_
  rintro e w7 ⟨rfl, hb7⟩
  have u1 := ext_cell hb7 u1
  have u0 := ext_cell hb7 u0
  have B7 : Hid (Below W.heap.size W w7) := grow_trans BU.out hb7
  have C7 : Hid (Below w3.heap.size w3 w7) := grow_trans BU3.out hb7
  have HI7 : Hid (IsInts w7 (some ⟨ib, io, none⟩) E) := HI3.out.below C7.out
  have HX7 : Hid (IsRes w7 xa R) := HX3.out.below C7.out
  have BW7 : Hid (Below w.heap.size w w7) := grow_trans gW.out B7.out
  clear hb7 CB BU BU3 HI3 HX3 B3 B5 RB' HG HG3 C7
  by_cases h0 : R.length = 0
  ·have e3 : (((R.length : Nat) : Int) == 0) = true := by rw [h0]; rfl
   clear h0
   go_wp2_with fail
   refine (auditBegun_any _).mono ?_
   rintro e w8 ⟨rfl, hb8⟩
   have B8 : Hid (Below w.heap.size w w8) := grow_trans BW7.out hb8
   clear hb8
   go_wp2
   go_ret
   exact ⟨rfl, B8.out⟩
  ·have e3 : (((R.length : Nat) : Int) == 0) = false := by rw [beq_eq_false_iff_ne]; omega
   have hRp : 0 < R.length := by omega
   have hR8 : R.length ≤ 8 := by rw [HRL.out]; exact hl8
   have hiR := chK_lt n hRp
   have CI : Hid (Calls Tryz.prog 8 #[.int .i64 n, .int .i64 (R.length : Nat)] w7 fun e w' => e = .returned (.int .i64 (chK n R.length : Nat)) ∧ w' = w7) := choose_is n R.length w7 hn hRp (by omega)
   generalize chK n R.length = i at *
   clear h0 hn
   have P7 : Hid (w7.cell? ⟨w.heap.size, 1, none⟩ = some (.slice la l.length lc) ∧ w7.cell? ⟨b1, 0, none⟩ = some (.slice (some ⟨ib, io, none⟩) E.length q.sc)) := ⟨u1, u0⟩
   go_wp2_with fail
   refine CI.out.mono ?_
   rintro e w8 ⟨rfl, hwe⟩
   subst hwe
   obtain ⟨xb, xo, _, _, exa, _, _, _, _⟩ := HX7.out 0 hRp
   subst exa
   obtain ⟨rl, r1, r2, r3, r4⟩ := res_rl HX7.out
   have R3 : Hid (∀ j u, (flatR rl)[j]? = some u → (w8.alloc (.cells #[] 41)).cell? ((⟨xb, xo, none⟩ : Addr).add j) = some u) := fun j u hu => ext_cell (grow_alloc (Below.refl _ _) _) (r3 j u hu)
   have R2 : Hid (rl.length = R.length) := r2
   have R4 : Hid (∀ k, k < R.length → IsInts w8 (rl.getD k r0).va (R.getD k (false, [])).2 ∧ (rl.getD k r0).vs = (R.getD k (false, [])).2 ∧ (rl.getD k r0).d = (R.getD k (false, [])).1) := r4
   have RL : Hid ((flatR rl).length = R.length * 2) := by show _ = _; rw [flatR_len, r2]
   have HL7 : Hid (R.length ≤ 8) := hR8
   clear r1 r2 r3 r4 CI hR8
   go_wp2_with (first
    | (at_builtin; refine wpList_append_own _ rfl _ _ 33 rfl w8.heap.size 41 i4 (.agg #[.bool false, .slice none 0 0]) 2 32 Tryz.underlying33 hi4 hy0 hy1 hy2 rfl (by decide) _ 0 [] rfl (World.ownsRow_lit w8 #[] 0 (Nat.le_refl _) (by decide) rfl) ⟨xb, xo, none⟩ R.length xc (flatR rl) rfl RL.out R3.out (flatR_one rl) (by have := HL7.out; unfold maxLen; omega) (by have := HL7.out; omega) (by simp) ?_; intro v2 w9 hown2 hgrow2 _)
    | go_in)
   have RB2 : Below w8.heap.size w8 w9 := (grow_alloc (Below.refl _ _) _).grown hgrow2 (by simp) (fun j hj => by have hj' : some w8.heap.size = some j := hj; injection hj' with hj'; exact Nat.le_of_eq hj')
   simp only [Nat.zero_add, List.nil_append] at hown2
   obtain ⟨g2, cap2, hv2, hg3, hg4⟩ := hown2.form hRp
   subst hv2
   have HC2 : Hid (∀ j u, (flatR rl)[j]? = some u → w9.cell? ⟨g2, j, none⟩ = some u) := fun j u hu => by
    have h := hown2.cells (g := g2) rfl j u hu
    rw [add_none, Nat.zero_add] at h
    exact h
   have HF2 : Hid (∀ j, w9.frozen? ⟨g2, j, none⟩ = false) := fun j => hown2.frozenAt j
   have hd0 := HC2.out _ _ (flatR_at rl i (by rw [R2.out]; exact hiR)).1
   rw [(R4.out i hiR).2.2] at hd0
   have f2 := HF2.out (i * 2)
   have iR : (i : Int) < (R.length : Int) := by omega
   have u1 := ext_cell RB2 u1
   have u0 := ext_cell RB2 u0
   obtain ⟨d, hd⟩ : ∃ d, (R.getD i (false, [])).1 = d := ⟨_, rfl⟩
   rw [hd] at hd0
   have BX : Hid (Below w8.heap.size w8 (w9.setCell ⟨g2, i * 2, none⟩ (.bool !d))) := grow_set RB2 hg3 _
   have HXX : Hid (IsRes (w9.setCell ⟨g2, i * 2, none⟩ (.bool !d)) (some ⟨g2, 0, none⟩) (R.set i (!d, (R.getD i (false, [])).2))) := set_res R2.out HC2.out R4.out BX.out hiR
   obtain ⟨a1, a2⟩ := A4.out i (by rw [← HRL.out]; exact hiR)
   rw [hd] at a1 a2
   have CB2 : Hid (Calls Tryz.prog 7 #[.slice sa s.length sc, .slice la l.length lc, .slice (some ⟨ib, io, none⟩) E.length q.sc, .slice (some ⟨g2, 0, none⟩) R.length cap2] (w9.setCell ⟨g2, i * 2, none⟩ (.bool !d)) fun e w'' => e = .returned (.tuple #[.int .i64 (i : Nat), .int .i64 0]) ∧ Below (w9.setCell ⟨g2, i * 2, none⟩ (.bool !d)).heap.size (w9.setCell ⟨g2, i * 2, none⟩ (.bool !d)) w'') := by
    have h := CA.out E (R.set i (!d, (R.getD i (false, [])).2)) (some ⟨ib, io, none⟩) (some ⟨g2, 0, none⟩) q.sc cap2 _ a1 a2 _ (grow_trans B7.out BX.out) (HI7.out.below BX.out) HXX.out
    rw [List.length_set] at h
    exact h
   have t1 : (w9.setCell ⟨g2, i * 2, none⟩ (.bool !d)).cell? ⟨w.heap.size, 1, none⟩ = some (.slice la l.length lc) := ext_cell BX.out P7.out.1
   have t0 : (w9.setCell ⟨g2, i * 2, none⟩ (.bool !d)).cell? ⟨b1, 0, none⟩ = some (.slice (some ⟨ib, io, none⟩) E.length q.sc) := ext_cell BX.out P7.out.2
   have BF : Hid (Below w.heap.size w (w9.setCell ⟨g2, i * 2, none⟩ (.bool !d))) := grow_trans BW7.out BX.out
   clear hown2 hgrow2 hg4 R3 RL a1 a2 hd
   have hix : ∀ w' : World, (Instr.indexAt 33 (.slice (some ⟨g2, 0, none⟩) R.length cap2) (.int .i64 (i : Int))).run Tryz.prog w' = .ok (.pointer (some ⟨g2, i * 2, none⟩)) w' := fun w' => by
    have u33 := Tryz.underlying33
    have e33 : Tryz.prog.elem 33 = 41 := by kernel_rfl
    rw [run_indexAt_slice _ 33 _ _ _ _ _ (by rw [e33]; exact u33), if_pos ⟨by omega, iR⟩, e33]
    go_simp
   go_simp
   go_upto_region 18 with fail
   clear hd0 f2 u0 u1 HC2 HF2 R4 HXX
   generalize (w9.setCell ⟨g2, i * 2, none⟩ (.bool !d)) = X at *
   go_wp2_with fail
   refine CB2.out.mono ?_
   rintro e x1 ⟨rfl, hx1⟩
   have BF1 : Hid (Below w.heap.size w x1) := grow_trans BF.out hx1
   clear hx1 t0 t1
   go_wp2_with fail
   refine (auditBegun_any _).mono ?_
   rintro e x2 ⟨rfl, hx2⟩
   have BF2 : Hid (Below w.heap.size w x2) := grow_trans BF1.out hx2
   clear hx2
   go_wp2
   go_ret
   exact ⟨rfl, BF2.out⟩)
theorem auditTrue_walk (m n key : Int) (w : World) (hl : IsTxs w la l) (hs : IsInts w sa s) (hp : IsInts w pa pk) (hw : ∀ i, i < pk.length → (Lit.int .i64 (pk.getD i 0)).wf = true) (hpc : pk.length ≤ pc) (hn : (Lit.int .i64 n).wf = true) (hkey : (Lit.int .i64 key).wf = true) :
  Calls Tryz.prog 3 #[.agg #[.int .i64 m, .slice la l.length lc], .slice sa s.length sc, .slice pa pk.length pc, .int .i64 n, .int .i64 key] w fun e w' => e = .returned (.bool true) ∧ Below w.heap.size w w' := by
 by_cases hE : playE m l s pk = 0
 ·exact auditTrue_ok la lc l sa sc s pa pc pk m n key w hl hs hp hw hpc hn hkey hE
 ·exact auditTrue_bad la lc l sa sc s pa pc pk m n key w hl hs hp hw hpc hE
end Go.Proofs.YtcgpkonfneofdaaGreat
namespace Go.Proofs.YtcgpkonfneofdaaGreat
open Go.ChangeShapes Go.WideShapes Go.ChangeAt Go.RowKit Go.Deep
theorem auditTrue_lifted (os : Os) (started : os.Started) (H : Type) (enc : TypeId × Value → H) :
  ReturnsInHanded {} Tryz.checked os 3 .any (Rows.auditTrueSpec.pre6 enc Tryz.prog Tryz.f3 Rows.auditTrueRow.domain false) (Rows.auditTrueSpec.post enc Tryz.prog Tryz.f3 false true false false) := by
 refine returnsInHanded_of_change (C := Tryz.checked) ownK started (by kernel_rfl) Tryz.func3
  (ChangeSpec.witness6 (enc := enc) (C := Tryz.checked) false ⟨#[], #[.agg #[.int .i64 0, .slice none 0 0], .slice none 0 0, .slice none 0 0, .int .i64 0, .int .i64 0], []⟩ 8 (by kernel_rfl) (by kernel_rfl) (by kernel_rfl) (by kernel_rfl)) ?_
 intro W base args ds gs0 before hval0 hW hcnd _
 have hval : ∀ (j : Nat) t v, Tryz.f3.params[j]? = some t → args[j]? = some v → Value.okWide Tryz.prog W .any base t v := hval0
 have hW' := hW
 obtain ⟨p, q, hA0, hV, rfl, hfz, hnd⟩ := hW
 have hA : DataW.TrodAll enc Tryz.prog W 0 (fun _ => true) true Tryz.f3.params.toList args.toList ds p := hA0
 rw [Tryz.params3] at hA hval
 obtain ⟨v0, vs0, d0, ds0, p0, q0, hargs, rfl, rfl, h0, r0⟩ := trodAll_cons hA
 obtain ⟨v1, vs1, d1, ds1, p1, q1, rfl, rfl, rfl, h1, r1⟩ := trodAll_cons r0
 obtain ⟨v2, vs2, d2, ds2, p2, q2, rfl, rfl, rfl, h2, r2⟩ := trodAll_cons r1
 obtain ⟨v3, vs3, d3, ds3, p3, q3, rfl, rfl, rfl, h3, r3⟩ := trodAll_cons r2
 obtain ⟨v4, vs4, d4, ds4, p4, q4, rfl, rfl, rfl, h4, r4⟩ := trodAll_cons r3
 obtain ⟨rfl, rfl, rfl⟩ := trodAll_nil r4
 obtain rfl : args = #[v0, v1, v2, v3, v4] := by cases args; simp_all
 obtain ⟨rfl, rfl⟩ := trodVars_none hV
 have k0 := h0
 have lt0 : ∀ x ∈ p0, x.block < W.heap.size := by obtain ⟨m, hm⟩ := k0; exact DataW.trod_lt m _ _ _ hm
 have k1 := h1
 have lt1 : ∀ x ∈ p1, x.block < W.heap.size := by obtain ⟨m, hm⟩ := k1; exact DataW.trod_lt m _ _ _ hm
 have k2 := h2
 have lt2 : ∀ x ∈ p2, x.block < W.heap.size := by obtain ⟨m, hm⟩ := k2; exact DataW.trod_lt m _ _ _ hm
 have k3 := h3
 have lt3 : ∀ x ∈ p3, x.block < W.heap.size := by obtain ⟨m, hm⟩ := k3; exact DataW.trod_lt m _ _ _ hm
 have k4 := h4
 have lt4 : ∀ x ∈ p4, x.block < W.heap.size := by obtain ⟨m, hm⟩ := k4; exact DataW.trod_lt m _ _ _ hm
 obtain ⟨m0, la0, l0, lc0, rfl, hl0⟩ := open_p (hval 0 24 v0 rfl rfl) h0
 obtain ⟨za1, zs1, zc1, rfl, hzl1, hz1, hzn1⟩ := open_zs (hval 1 25 v1 rfl rfl) h1
 obtain ⟨za2, zs2, zc2, rfl, hzl2, hz2, hzw2, hzc2⟩ := open_pk (hval 2 25 v2 rfl rfl) h2
 obtain ⟨n3, rfl, hn3⟩ := open_n (hval 3 3 v3 rfl rfl) h3
 obtain ⟨n4, rfl, hn4⟩ := open_n (hval 4 3 v4 rfl rfl) h4
 clear hA0 hval0
 refine (auditTrue_walk la0 lc0 l0 za1 zc1 zs1 za2 zc2 zs2 m0 n3 n4 W hl0 hz1 hz2 (fun i hi => hzw2 _ (by simp [List.getD, hi])) hzc2 hn3 hn4).mono fun e W' ⟨he, bel⟩ => ?_
 subst he
 exact ⟨_, rfl, _, _, _, [], _, [], hW', trodAll_mk1 (shut_bool Tryz.underlying4 _), (trodAll_cons_mk (Below.trod laidOutK (by kernel_rfl) (of_decide_eq_true (by kernel_rfl)) k0 bel lt0) (trodAll_cons_mk (Below.trod laidOutK (by kernel_rfl) (of_decide_eq_true (by kernel_rfl)) k1 bel lt1) (trodAll_cons_mk (Below.trod laidOutK (by kernel_rfl) (of_decide_eq_true (by kernel_rfl)) k2 bel lt2) (trodAll_cons_mk (Below.trod laidOutK (by kernel_rfl) (of_decide_eq_true (by kernel_rfl)) k3 bel lt3) (trodAll_cons_mk (Below.trod laidOutK (by kernel_rfl) (of_decide_eq_true (by kernel_rfl)) k4 bel lt4) trodAll_mk0))))), rfl, bel.frame _, fun h => by cases h⟩
theorem auditTrue_over : Rows.auditTrueRow.holds Tryz.pinned (OpenSpec.ofChange Rows.auditTrueSpec) :=
 OpenClaim.holds_of_wide 3 Tryz.f3 rfl rfl rfl rfl rfl rfl rfl ⟨rfl, rfl, rfl, rfl, rfl⟩ rfl rfl rfl rfl rfl (by kernel_rfl) Tryz.func3 (by kernel_rfl)
  (of_decide_eq_true (by kernel_rfl)) (by unfold Func.isWrapper; first | (rw [if_pos (by decide +kernel)]; kernel_rfl) | (rw [if_neg (by decide +kernel)]; exact ⟨rfl, rfl⟩))
  (fun os started H enc _ => auditTrue_lifted os started H enc)
theorem auditTrue_holds : Rows.AuditTrueSaid := auditTrue_over
#print axioms auditTrue_holds
end Go.Proofs.YtcgpkonfneofdaaGreat
