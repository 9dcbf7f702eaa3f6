/-
  
  Conditions: those that each theorem states.
-/
import Derived.Test.YtebjkmknhpgemaaGreatSPlayF
set_option maxRecDepth 100000
namespace Go.Proofs.YtebjkmknhpgemaaGreat
open Go.RowKit
def EPC : SA := playS 2 (th3 none none none none none none 0 0 0 0 0 0) five5 [2, -1, 7]
def RPC : List (Bool × List Int) := rsL 2 (th3 none none none none none none 0 0 0 0 0 0) EPC
section
variable (ra ga sa ra2 sa2 sa3 : Option Addr) (rc gc sc rc2 sc2 sc3 : Nat)
theorem th_pe : playE 2 (th3 ra ga sa ra2 sa2 sa3 rc gc sc rc2 sc2 sc3) five5 [2, -1, 7] = 0 := by kernel_rfl
theorem th_pn : playN 2 (th3 ra ga sa ra2 sa2 sa3 rc gc sc rc2 sc2 sc3) five5 [2, -1, 7] = 8 := by kernel_rfl
theorem th_ps : playS 2 (th3 ra ga sa ra2 sa2 sa3 rc gc sc rc2 sc2 sc3) five5 [2, -1, 7] = EPC := by kernel_rfl
theorem th_re : rsE 2 (th3 ra ga sa ra2 sa2 sa3 rc gc sc rc2 sc2 sc3) EPC = 0 := by kernel_rfl
theorem th_rl : rsL 2 (th3 ra ga sa ra2 sa2 sa3 rc gc sc rc2 sc2 sc3) EPC = RPC := by kernel_rfl
theorem th_r8 : rsE 2 (th3 ra ga sa ra2 sa2 sa3 rc gc sc rc2 sc2 sc3) STC = 8 := by kernel_rfl
end
theorem epc_st : EPC.st = [2, 4, 0, 0, 0, 4, 0, 9] := by kernel_rfl
theorem rpc_len : RPC.length = 3 := by kernel_rfl
theorem rpc_0 : (RPC.getD 0 (false, [])).1 = true := by kernel_rfl
structure Pl (l : List TxA) : Prop where
 pe : playE 2 l five5 [2, -1, 7] = 0
 pn : playN 2 l five5 [2, -1, 7] = 8
 ps : playS 2 l five5 [2, -1, 7] = EPC
 re : rsE 2 l EPC = 0
 rl : rsL 2 l EPC = RPC
 r8 : rsE 2 l STC = 8
 beg : begE 2 l five5 = 0
 stc : begS 2 l five5 = STC
theorem three_pl (w : World) : Calls Tryz.prog 56 #[] w fun e w' => ∃ l a, e = .returned (.agg #[.int .i64 2, .slice a l.length 3]) ∧ Hid (IsTxs w' a l) ∧ Hid (Pl l) ∧ Below w.heap.size w w' := by
 refine (three_any w).mono ?_
 rintro e w' ⟨a, ra, ga, sa, rc, gc, sc, ra2, sa2, rc2, sc2, sa3, sc3, rfl, hl, hb⟩
 exact ⟨th3 ra ga sa ra2 sa2 sa3 rc gc sc rc2 sc2 sc3, a, rfl, hl, ⟨th_pe _ _ _ _ _ _ _ _ _ _ _ _, th_pn _ _ _ _ _ _ _ _ _ _ _ _, th_ps _ _ _ _ _ _ _ _ _ _ _ _, th_re _ _ _ _ _ _ _ _ _ _ _ _, th_rl _ _ _ _ _ _ _ _ _ _ _ _, th_r8 _ _ _ _ _ _ _ _ _ _ _ _, th_beg _ _ _ _ _ _ _ _ _ _ _ _, th_stc _ _ _ _ _ _ _ _ _ _ _ _⟩, hb⟩
theorem ints_8 (w : World) (n : Nat) (x0 x1 x2 x3 x4 x5 x6 x7 : Int) (hn : n = w.heap.size) : IsInts (w.alloc (.cells #[.int .i64 x0, .int .i64 x1, .int .i64 x2, .int .i64 x3, .int .i64 x4, .int .i64 x5, .int .i64 x6, .int .i64 x7] 3)) (some ⟨n, 0, none⟩) [x0, x1, x2, x3, x4, x5, x6, x7] := by
 subst hn
 intro i hi
 refine ⟨w.heap.size, 0, rfl, by simp, ?_⟩
 rw [Nat.zero_add]
 match i, hi with
 | 0, _ => exact at_new _ _ 3 _ 0 _ rfl rfl
 | 1, _ => exact at_new _ _ 3 _ 1 _ rfl rfl
 | 2, _ => exact at_new _ _ 3 _ 2 _ rfl rfl
 | 3, _ => exact at_new _ _ 3 _ 3 _ rfl rfl
 | 4, _ => exact at_new _ _ 3 _ 4 _ rfl rfl
 | 5, _ => exact at_new _ _ 3 _ 5 _ rfl rfl
 | 6, _ => exact at_new _ _ 3 _ 6 _ rfl rfl
 | 7, _ => exact at_new _ _ 3 _ 7 _ rfl rfl
theorem ints_3 (w : World) (n : Nat) (x0 x1 x2 : Int) (hn : n = w.heap.size) : IsInts (w.alloc (.cells #[.int .i64 x0, .int .i64 x1, .int .i64 x2] 3)) (some ⟨n, 0, none⟩) [x0, x1, x2] := by
 subst hn
 intro i hi
 refine ⟨w.heap.size, 0, rfl, by simp, ?_⟩
 rw [Nat.zero_add]
 match i, hi with
 | 0, _ => exact at_new _ _ 3 _ 0 _ rfl rfl
 | 1, _ => exact at_new _ _ 3 _ 1 _ rfl rfl
 | 2, _ => exact at_new _ _ 3 _ 2 _ rfl rfl
set_option maxHeartbeats 4000000 in
theorem playBegun_any (w : World) : Calls Tryz.prog 32 #[] w fun e w' => e = .returned (.bool true) ∧ Below w.heap.size w w' := by
 go_enter Tryz.func32, Tryz.ntmps32
 go_wp2_with fail
 refine (three_pl _).mono ?_
 rintro e w1 ⟨l1, a1, rfl, hl1, ht1, hb1⟩
 go_wp2_with fail
 refine (five_any _).mono ?_
 rintro e w2 ⟨a2, rfl, hi2, hb2⟩
 go_wp2_with fail
 have gI : Below w2.heap.size w2 (w2.alloc (.cells #[.int .i64 2, .int .i64 (-1), .int .i64 7] 3)) := grow_alloc (Below.refl _ _) _
 refine (play_any a1 3 l1 a2 8 five5 (some ⟨w2.heap.size, 0, none⟩) 3 [2, -1, 7] 2 _ (hl1.out.below (grow_trans hb2 gI)) (hi2.out.below gI) (ints_3 _ _ _ _ _ rfl) (by decide) (fun i hi => by match i, hi with | 0, _ => rfl | 1, _ => rfl | 2, _ => rfl)).mono ?_
 rintro e w4 ⟨q, rfl, hq, hb4⟩
 rw [ht1.out.pe, ht1.out.pn]
 rw [ht1.out.ps] at hq
 have gA : Below w4.heap.size w4 (w4.alloc (.cells #[.slice q.sa q.sn q.sc, .slice q.ra q.rn q.rc, .slice q.wa q.wn q.tc, .slice q.va q.vn q.vc] 29)) := grow_alloc (Below.refl _ _) _
 have B0 : Hid (Below w.heap.size w (w4.alloc (.cells #[.slice q.sa q.sn q.sc, .slice q.ra q.rn q.rc, .slice q.wa q.wn q.tc, .slice q.va q.vn q.vc] 29))) := grow_trans hb1 (grow_trans hb2 (grow_trans gI (grow_trans hb4 gA)))
 have hqq : Hid (StaQ EPC q (w4.alloc (.cells #[.slice q.sa q.sn q.sc, .slice q.ra q.rn q.rc, .slice q.wa q.wn q.tc, .slice q.va q.vn q.vc] 29))) := hq.sta.below gA
 have k0 : (w4.alloc (.cells #[.slice q.sa q.sn q.sc, .slice q.ra q.rn q.rc, .slice q.wa q.wn q.tc, .slice q.va q.vn q.vc] 29)).cell? ⟨w4.heap.size, 0, none⟩ = some (.slice q.sa q.sn q.sc) := at_new _ _ 29 _ 0 _ rfl rfl
 have k1 : (w4.alloc (.cells #[.slice q.sa q.sn q.sc, .slice q.ra q.rn q.rc, .slice q.wa q.wn q.tc, .slice q.va q.vn q.vc] 29)).cell? ⟨w4.heap.size, 1, none⟩ = some (.slice q.ra q.rn q.rc) := at_new _ _ 29 _ 1 _ rfl rfl
 have k2 : (w4.alloc (.cells #[.slice q.sa q.sn q.sc, .slice q.ra q.rn q.rc, .slice q.wa q.wn q.tc, .slice q.va q.vn q.vc] 29)).cell? ⟨w4.heap.size, 2, none⟩ = some (.slice q.wa q.wn q.tc) := at_new _ _ 29 _ 2 _ rfl rfl
 have k3 : (w4.alloc (.cells #[.slice q.sa q.sn q.sc, .slice q.ra q.rn q.rc, .slice q.wa q.wn q.tc, .slice q.va q.vn q.vc] 29)).cell? ⟨w4.heap.size, 3, none⟩ = some (.slice q.va q.vn q.vc) := at_new _ _ 29 _ 3 _ rfl rfl
 clear hb1 hb2 hb4 gA gI hq hl1 ht1 hi2
 go_upto_region 2 with fail
 generalize (w4.alloc (.cells #[.slice q.sa q.sn q.sc, .slice q.ra q.rn q.rc, .slice q.wa q.wn q.tc, .slice q.va q.vn q.vc] 29)) = V at *
 generalize w4.heap.size = b1 at *
 have KS : Hid (∀ w', Below V.heap.size V w' → w'.cell? ⟨b1, 0, none⟩ = some (.slice q.sa q.sn q.sc) ∧ w'.cell? ⟨b1, 1, none⟩ = some (.slice q.ra q.rn q.rc) ∧ w'.cell? ⟨b1, 2, none⟩ = some (.slice q.wa q.wn q.tc) ∧ w'.cell? ⟨b1, 3, none⟩ = some (.slice q.va q.vn q.vc)) := fun w' hb => ⟨ext_cell hb k0, ext_cell hb k1, ext_cell hb k2, ext_cell hb k3⟩
 refine wp_region_held_drew (S := fun w' => w'.cell? ⟨b1, 0, none⟩ = some (.slice q.sa q.sn q.sc) ∧ w'.cell? ⟨b1, 1, none⟩ = some (.slice q.ra q.rn q.rc) ∧ w'.cell? ⟨b1, 2, none⟩ = some (.slice q.wa q.wn q.tc) ∧ w'.cell? ⟨b1, 3, none⟩ = some (.slice q.va q.vn q.vc)) (by kernel_rfl) ?_ (fun hHeld => ?_)
 ·exact KS.out _ (grow_drew (Below.refl _ _))
 refine tk (i := 1) (oi := { dst := some 20, op := .load 29 (.tmp 1), type := 29, pos := "two.go:135", after := #[], guard := none }) (v := ?_) rfl (by kernel_rfl) (by kernel_rfl) (by kernel_rfl) (fun _ _ _ h => h) (by rfl) (by assumption) ?_ ?_; rotate_left; focus (intro w hSw; go_simp; first | done | with_reducible rfl)
 try simp only [Act.put, List.setIfInBounds_toArray, List.set_cons_zero, List.set_cons_succ]
 refine wpAnyH_ready (rs := [0]) (by kernel_rfl) (by simp) ?_
 refine AllReadyH.cons (o := { dst := some 19, op := .call { callee := .value (.func 56), args := #[], argTypes := #[] }, type := 24, pos := "two.go:135", after := #[], guard := none }) rfl (fun K hK => ?_) AllReadyH.nil
 go_simp
 go_wp2_with (go_at_call 56; refine (three_pl _).mono ?_; rintro e wa ⟨la, aa, rfl, hla, hta, hba⟩)
 have Ba : Hid (Below V.heap.size V wa) := grow_trans (grow_drew (Below.refl _ _)) hba
 clear hHeld
 refine hK.out _ _ (KS.out _ Ba.out) (fun hHeld => ?_)
 clear hK K
 refine wpAnyH_ready (rs := [2]) (by kernel_rfl) (by simp) ?_
 refine AllReadyH.cons (o := { dst := some 21, op := .call { callee := .value (.func 33), args := #[.tmp 19, .tmp 20], argTypes := #[24, 29] }, type := 59, pos := "two.go:135", after := #[{ on := 0, ground := .data }, { on := 1, ground := .data }, { on := 0, ground := .chain }], guard := none }) rfl (fun K hK => ?_) AllReadyH.nil
 go_simp
 go_wp2_with (go_at_call 33; refine (results_any aa 3 la q EPC 2 _ hla.out (hqq.out.below Ba.out)).mono ?_; rintro e wb ⟨xa, xc, rfl, hr, hbb⟩)
 have Bb : Hid (Below V.heap.size V wb) := grow_trans Ba.out hbb
 rw [hta.out.re, hta.out.rl, rpc_len]
 rw [hta.out.rl] at hr
 clear hHeld
 refine hK.out _ _ (KS.out _ Bb.out) (fun hHeld => ?_)
 clear hK K
 refine tk (i := 3) (oi := { dst := some 18, op := .move (.tmp 21), type := 59, pos := "two.go:135", after := #[{ on := 2, ground := .data }], guard := none }) (v := ?_) rfl (by kernel_rfl) (by kernel_rfl) (by kernel_rfl) (fun _ _ _ h => h) (by rfl) (by assumption) ?_ ?_; rotate_left; focus (intro w hSw; go_simp; first | done | with_reducible rfl)
 try simp only [Act.put, List.setIfInBounds_toArray, List.set_cons_zero, List.set_cons_succ]
 refine tk (i := 4) (oi := { dst := some 22, op := .extract (.tmp 18) 0, type := 58, pos := "two.go:135", after := #[{ on := 3, ground := .data }], guard := none }) (v := ?_) rfl (by kernel_rfl) (by kernel_rfl) (by kernel_rfl) (fun _ _ _ h => h) (by rfl) (by assumption) ?_ ?_; rotate_left; focus (intro w hSw; go_simp; first | done | with_reducible rfl)
 try simp only [Act.put, List.setIfInBounds_toArray, List.set_cons_zero, List.set_cons_succ]
 refine tk (i := 5) (oi := { dst := some 23, op := .extract (.tmp 18) 1, type := 30, pos := "two.go:135", after := #[{ on := 3, ground := .data }, { on := 6, ground := .gcOnly Departure.lateStores }], guard := none }) (v := ?_) rfl (by kernel_rfl) (by kernel_rfl) (by kernel_rfl) (fun _ _ _ h => h) (by rfl) (by assumption) ?_ ?_; rotate_left; focus (intro w hSw; go_simp; first | done | with_reducible rfl)
 try simp only [Act.put, List.setIfInBounds_toArray, List.set_cons_zero, List.set_cons_succ]
 refine tk (i := 6) (oi := { dst := some 4, op := .assign (.tmp 22), type := 58, pos := "two.go:135", after := #[{ on := 4, ground := .data }, { on := 2, ground := .chain }, { on := 0, ground := .phase }, { on := 1, ground := .phase }, { on := 2, ground := .phase }, { on := 3, ground := .phase }, { on := 4, ground := .phase }, { on := 5, ground := .textOnly Departure.lateStores }], guard := none }) (v := ?_) rfl (by kernel_rfl) (by kernel_rfl) (by kernel_rfl) (fun _ _ _ h => h) (by rfl) (by assumption) ?_ ?_; rotate_left; focus (intro w hSw; go_simp; first | done | with_reducible rfl)
 try simp only [Act.put, List.setIfInBounds_toArray, List.set_cons_zero, List.set_cons_succ]
 refine tk (i := 7) (oi := { dst := some 5, op := .assign (.tmp 23), type := 30, pos := "two.go:135", after := #[{ on := 5, ground := .data }, { on := 6, ground := .chain }, { on := 0, ground := .phase }, { on := 1, ground := .phase }, { on := 2, ground := .phase }, { on := 3, ground := .phase }, { on := 4, ground := .phase }, { on := 5, ground := .phase }, { on := 6, ground := .phase }], guard := none }) (v := ?_) rfl (by kernel_rfl) (by kernel_rfl) (by kernel_rfl) (fun _ _ _ h => h) (by rfl) (by assumption) ?_ ?_; rotate_left; focus (intro w hSw; go_simp; first | done | with_reducible rfl)
 try simp only [Act.put, List.setIfInBounds_toArray, List.set_cons_zero, List.set_cons_succ]
 refine wpAnyH_done (by kernel_rfl) ?_ _
 clear hHeld KS
 have k0 := ext_cell Bb.out k0
 have B1 : Hid (Below w.heap.size w wb) := grow_trans B0.out Bb.out
 have esn : q.sn = 8 := hqq.out.1.trans (by rw [epc_st]; rfl)
 have HI : Hid (IsInts wb q.sa [2, 4, 0, 0, 0, 4, 0, 9]) := by
  have h := hqq.out.2.2.2.2.st.below Bb.out
  rw [epc_st] at h
  exact h
 obtain ⟨xb, xo, va, vc, rfl, _, r0, _, _⟩ := hr 0 (by rw [rpc_len]; decide)
 rw [rpc_0, Nat.zero_mul, Nat.add_zero] at r0
 rw [esn] at k0
 clear hr hbb hba Ba Bb hla hta k1 k2 k3 hqq B0
 obtain ⟨W, hren⟩ : ∃ W : World, W = wb := ⟨_, rfl⟩
 subst hren
 go_wp2_with fail
 refine (three_pl _).mono ?_
 rintro e w5 ⟨l5, a5, rfl, hl5, ht5, hb5⟩
 go_wp2_with fail
 refine (five_any _).mono ?_
 rintro e w6 ⟨a6, rfl, hi6, hb6⟩
 go_wp2_with fail
 refine (stepsBegin_any a5 3 l5 a6 8 five5 2 _ (hl5.out.below hb6) hi6.out).mono ?_
 rintro e w7 ⟨y, rfl, hy, hb7⟩
 rw [ht5.out.beg]
 rw [ht5.out.stc] at hy
 have gA : Below w7.heap.size w7 (w7.alloc (.cells #[.slice y.sa y.sn y.sc, .slice y.ra y.rn y.rc, .slice y.wa y.wn y.tc, .slice y.va y.vn y.vc] 29)) := grow_alloc (Below.refl _ _) _
 have gW : Below W.heap.size W (w7.alloc (.cells #[.slice y.sa y.sn y.sc, .slice y.ra y.rn y.rc, .slice y.wa y.wn y.tc, .slice y.va y.vn y.vc] 29)) := grow_trans hb5 (grow_trans hb6 (grow_trans hb7 gA))
 have J0 := ext_cell gW k0
 have R0 := ext_cell gW r0
 have HI2 : Hid (IsInts (w7.alloc (.cells #[.slice y.sa y.sn y.sc, .slice y.ra y.rn y.rc, .slice y.wa y.wn y.tc, .slice y.va y.vn y.vc] 29)) q.sa [2, 4, 0, 0, 0, 4, 0, 9]) := HI.out.below gW
 have B2 : Hid (Below w.heap.size w (w7.alloc (.cells #[.slice y.sa y.sn y.sc, .slice y.ra y.rn y.rc, .slice y.wa y.wn y.tc, .slice y.va y.vn y.vc] 29))) := grow_trans B1.out gW
 have hyy : Hid (StaQ STC y (w7.alloc (.cells #[.slice y.sa y.sn y.sc, .slice y.ra y.rn y.rc, .slice y.wa y.wn y.tc, .slice y.va y.vn y.vc] 29))) := hy.sta.below gA
 have k0 : (w7.alloc (.cells #[.slice y.sa y.sn y.sc, .slice y.ra y.rn y.rc, .slice y.wa y.wn y.tc, .slice y.va y.vn y.vc] 29)).cell? ⟨w7.heap.size, 0, none⟩ = some (.slice y.sa y.sn y.sc) := at_new _ _ 29 _ 0 _ rfl rfl
 have k1 : (w7.alloc (.cells #[.slice y.sa y.sn y.sc, .slice y.ra y.rn y.rc, .slice y.wa y.wn y.tc, .slice y.va y.vn y.vc] 29)).cell? ⟨w7.heap.size, 1, none⟩ = some (.slice y.ra y.rn y.rc) := at_new _ _ 29 _ 1 _ rfl rfl
 have k2 : (w7.alloc (.cells #[.slice y.sa y.sn y.sc, .slice y.ra y.rn y.rc, .slice y.wa y.wn y.tc, .slice y.va y.vn y.vc] 29)).cell? ⟨w7.heap.size, 2, none⟩ = some (.slice y.wa y.wn y.tc) := at_new _ _ 29 _ 2 _ rfl rfl
 have k3 : (w7.alloc (.cells #[.slice y.sa y.sn y.sc, .slice y.ra y.rn y.rc, .slice y.wa y.wn y.tc, .slice y.va y.vn y.vc] 29)).cell? ⟨w7.heap.size, 3, none⟩ = some (.slice y.va y.vn y.vc) := at_new _ _ 29 _ 3 _ rfl rfl
 clear hb5 hb6 hb7 gA gW hy hl5 ht5 hi6 B1 HI r0
 go_upto_region 4 with fail
 generalize (w7.alloc (.cells #[.slice y.sa y.sn y.sc, .slice y.ra y.rn y.rc, .slice y.wa y.wn y.tc, .slice y.va y.vn y.vc] 29)) = V at *
 generalize w7.heap.size = b7 at *
 have KS : Hid (∀ w', Below V.heap.size V w' → w'.cell? ⟨b7, 0, none⟩ = some (.slice y.sa y.sn y.sc) ∧ w'.cell? ⟨b7, 1, none⟩ = some (.slice y.ra y.rn y.rc) ∧ w'.cell? ⟨b7, 2, none⟩ = some (.slice y.wa y.wn y.tc) ∧ w'.cell? ⟨b7, 3, none⟩ = some (.slice y.va y.vn y.vc)) := fun w' hb => ⟨ext_cell hb k0, ext_cell hb k1, ext_cell hb k2, ext_cell hb k3⟩
 refine wp_region_held_drew (S := fun w' => w'.cell? ⟨b7, 0, none⟩ = some (.slice y.sa y.sn y.sc) ∧ w'.cell? ⟨b7, 1, none⟩ = some (.slice y.ra y.rn y.rc) ∧ w'.cell? ⟨b7, 2, none⟩ = some (.slice y.wa y.wn y.tc) ∧ w'.cell? ⟨b7, 3, none⟩ = some (.slice y.va y.vn y.vc)) (by kernel_rfl) ?_ (fun hHeld => ?_)
 ·exact KS.out _ (grow_drew (Below.refl _ _))
 refine tk (i := 1) (oi := { dst := some 32, op := .load 29 (.tmp 6), type := 29, pos := "two.go:137", after := #[], guard := none }) (v := ?_) rfl (by kernel_rfl) (by kernel_rfl) (by kernel_rfl) (fun _ _ _ h => h) (by rfl) (by assumption) ?_ ?_; rotate_left; focus (intro w hSw; go_simp; first | done | with_reducible rfl)
 try simp only [Act.put, List.setIfInBounds_toArray, List.set_cons_zero, List.set_cons_succ]
 refine wpAnyH_ready (rs := [0]) (by kernel_rfl) (by simp) ?_
 refine AllReadyH.cons (o := { dst := some 31, op := .call { callee := .value (.func 56), args := #[], argTypes := #[] }, type := 24, pos := "two.go:137", after := #[], guard := none }) rfl (fun K hK => ?_) AllReadyH.nil
 go_simp
 go_wp2_with (go_at_call 56; refine (three_pl _).mono ?_; rintro e wa ⟨la, aa, rfl, hla, hta, hba⟩)
 have Ba : Hid (Below V.heap.size V wa) := grow_trans (grow_drew (Below.refl _ _)) hba
 clear hHeld
 refine hK.out _ _ (KS.out _ Ba.out) (fun hHeld => ?_)
 clear hK K
 refine wpAnyH_ready (rs := [2]) (by kernel_rfl) (by simp) ?_
 refine AllReadyH.cons (o := { dst := some 33, op := .call { callee := .value (.func 33), args := #[.tmp 31, .tmp 32], argTypes := #[24, 29] }, type := 59, pos := "two.go:137", after := #[{ on := 0, ground := .data }, { on := 1, ground := .data }, { on := 0, ground := .chain }], guard := none }) rfl (fun K hK => ?_) AllReadyH.nil
 go_simp
 go_wp2_with (go_at_call 33; refine (results_any aa 3 la y STC 2 _ hla.out (hyy.out.below Ba.out)).mono ?_; rintro e wb ⟨ya, yc, rfl, hr, hbb⟩)
 have Bb : Hid (Below V.heap.size V wb) := grow_trans Ba.out hbb
 rw [hta.out.r8]
 clear hHeld
 refine hK.out _ _ (KS.out _ Bb.out) (fun hHeld => ?_)
 clear hK K
 refine tk (i := 3) (oi := { dst := some 30, op := .move (.tmp 33), type := 59, pos := "two.go:137", after := #[{ on := 2, ground := .data }], guard := none }) (v := ?_) rfl (by kernel_rfl) (by kernel_rfl) (by kernel_rfl) (fun _ _ _ h => h) (by rfl) (by assumption) ?_ ?_; rotate_left; focus (intro w hSw; go_simp; first | done | with_reducible rfl)
 try simp only [Act.put, List.setIfInBounds_toArray, List.set_cons_zero, List.set_cons_succ]
 refine tk (i := 4) (oi := { dst := some 34, op := .extract (.tmp 30) 0, type := 58, pos := "two.go:137", after := #[{ on := 3, ground := .data }], guard := none }) (v := ?_) rfl (by kernel_rfl) (by kernel_rfl) (by kernel_rfl) (fun _ _ _ h => h) (by rfl) (by assumption) ?_ ?_; rotate_left; focus (intro w hSw; go_simp; first | done | with_reducible rfl)
 try simp only [Act.put, List.setIfInBounds_toArray, List.set_cons_zero, List.set_cons_succ]
 refine tk (i := 5) (oi := { dst := some 35, op := .extract (.tmp 30) 1, type := 30, pos := "two.go:137", after := #[{ on := 3, ground := .data }, { on := 6, ground := .gcOnly Departure.lateStores }], guard := none }) (v := ?_) rfl (by kernel_rfl) (by kernel_rfl) (by kernel_rfl) (fun _ _ _ h => h) (by rfl) (by assumption) ?_ ?_; rotate_left; focus (intro w hSw; go_simp; first | done | with_reducible rfl)
 try simp only [Act.put, List.setIfInBounds_toArray, List.set_cons_zero, List.set_cons_succ]
 refine tk (i := 6) (oi := { dst := some 8, op := .assign (.tmp 34), type := 58, pos := "two.go:137", after := #[{ on := 4, ground := .data }, { on := 2, ground := .chain }, { on := 0, ground := .phase }, { on := 1, ground := .phase }, { on := 2, ground := .phase }, { on := 3, ground := .phase }, { on := 4, ground := .phase }, { on := 5, ground := .textOnly Departure.lateStores }], guard := none }) (v := ?_) rfl (by kernel_rfl) (by kernel_rfl) (by kernel_rfl) (fun _ _ _ h => h) (by rfl) (by assumption) ?_ ?_; rotate_left; focus (intro w hSw; go_simp; first | done | with_reducible rfl)
 try simp only [Act.put, List.setIfInBounds_toArray, List.set_cons_zero, List.set_cons_succ]
 refine tk (i := 7) (oi := { dst := some 9, op := .assign (.tmp 35), type := 30, pos := "two.go:137", after := #[{ on := 5, ground := .data }, { on := 6, ground := .chain }, { on := 0, ground := .phase }, { on := 1, ground := .phase }, { on := 2, ground := .phase }, { on := 3, ground := .phase }, { on := 4, ground := .phase }, { on := 5, ground := .phase }, { on := 6, ground := .phase }], guard := none }) (v := ?_) rfl (by kernel_rfl) (by kernel_rfl) (by kernel_rfl) (fun _ _ _ h => h) (by rfl) (by assumption) ?_ ?_; rotate_left; focus (intro w hSw; go_simp; first | done | with_reducible rfl)
 try simp only [Act.put, List.setIfInBounds_toArray, List.set_cons_zero, List.set_cons_succ]
 refine wpAnyH_done (by kernel_rfl) ?_ _
 clear hHeld KS
 have J0 := ext_cell Bb.out J0
 have R0 := ext_cell Bb.out R0
 have HI3 : Hid (IsInts wb q.sa [2, 4, 0, 0, 0, 4, 0, 9]) := HI2.out.below Bb.out
 have B3 : Hid (Below w.heap.size w wb) := grow_trans B2.out Bb.out
 clear hr hbb hba Ba Bb hla hta k0 k1 k2 k3 hyy B2 HI2
 go_wp2_with fail
 have g8 : Below wb.heap.size wb (wb.alloc (.cells #[.int .i64 2, .int .i64 4, .int .i64 0, .int .i64 0, .int .i64 0, .int .i64 4, .int .i64 0, .int .i64 9] 3)) := grow_alloc (Below.refl _ _) _
 refine (sameInts_any [2, 4, 0, 0, 0, 4, 0, 9] [2, 4, 0, 0, 0, 4, 0, 9] q.sa _ q.sc 8 _ (by decide) (HI3.out.below g8) (ints_8 _ _ _ _ _ _ _ _ _ _ rfl)).mono ?_
 rintro e w8 ⟨rfl, hb8⟩
 have R0 := ext_cell hb8 (ext_cell g8 R0)
 have B4 : Hid (Below w.heap.size w w8) := grow_trans B3.out (grow_trans g8 hb8)
 clear g8 B3 J0 hb8
 go_wp2
 go_ret
 exact ⟨rfl, B4.out⟩
end Go.Proofs.YtebjkmknhpgemaaGreat
namespace Go.Proofs.YtebjkmknhpgemaaGreat
open Go.RowKit Go.ChangeShapes Go.WideShapes Go.ChangeAt Go.Deep
theorem open_pk {H : Type} {enc : TypeId × Value → H} {W : World} {base : Nat} {v : Value} {d : DataW H} {p : List MemPlace} (hv : Value.okWide Tryz.prog W .any base 25 v) (h : DataW.Trod enc Tryz.prog W 0 (fun _ => true) true 25 v d p) :
  ∃ (a : Option Addr) (zs : List Int) (cap : Nat), v = .slice a zs.length cap ∧ zs.length ≤ maxLen ∧ IsInts W a zs ∧ (∀ z ∈ zs, (Lit.int .i64 z).wf = true) ∧ zs.length ≤ cap := by
 obtain ⟨a, len, cap, rfl⟩ := okWide_slice Tryz.underlying25 hv
 obtain ⟨fuel, hf⟩ := h
 rcases open_ints Tryz.underlying25 Tryz.underlying3 (by kernel_rfl) hf with ⟨hcs, _⟩ | ⟨x, l, c, zs, hcs, _, hl, hm, hz, _, hcell, hwz⟩
 ·simp [Value.cells] at hcs
  obtain ⟨rfl, rfl, rfl⟩ := hcs
  exact ⟨none, [], 0, rfl, by simp, fun i hi => by simp at hi, by simp, by simp⟩
 ·simp [Value.cells] at hcs
  obtain ⟨rfl, rfl, rfl⟩ := hcs
  have hzl : (zs.take len).length = len := by rw [List.length_take]; simp at hz; omega
  refine ⟨some x, zs.take len, cap, by rw [hzl], by rw [hzl]; omega, fun i hi => ?_, fun z hz' => hwz z (List.mem_of_mem_take hz'), by rw [hzl]; omega⟩
  have hi' : i < len := by omega
  have hc := hcell i (by simp at hz; omega)
  obtain ⟨b, off, spot⟩ := x
  have hspot : spot = none := by simpa [Addr.add] using World.cell?_spot (hcell 0 (by simp at hz; omega))
  subst hspot
  have hc0 : W.cell? ⟨b, off + i, none⟩ = some (.int .i64 (zs.getD i 0)) := by
   rw [← hc]
   by_cases h0 : i = 0
   ·subst h0; simp [Addr.add]
   ·simp [Addr.add, h0]
  refine ⟨b, off, rfl, World.block_lt_of_cell? W _ hc0, ?_⟩
  rw [hc0]
  simp [List.getD, hi']
theorem resL_few {m : Int} {l : List TxA} {S : SA} (h : stE m l S = 0) : ∀ r ∈ resL l S l.length, r.2.length ≤ 100 := by
 obtain ⟨sh, rfl, _, _, hc, _, hf, _⟩ := stE_zero h
 intro r hr
 unfold resL at hr
 obtain ⟨n, hn, rfl⟩ := List.mem_map.1 hr
 have hn' : n < l.length := List.mem_range.1 hn
 have h1 := (formB_iff.1 hf).vn n hn'
 have h2 : (gX l n).rs.length ≤ 4 := (many_small _ _ _ (chk_parts (chkL_in hc n hn')).1).1
 show (S.vs.getD n []).length ≤ 100
 omega
structure Played (m : Int) (l : List TxA) (s pk : List Int) : Prop where
 ser : serE s l = 0
 st : (playS m l s pk).st = serEnd s l
 re : rsE m l (playS m l s pk) = 0
 rl : rsL m l (playS m l s pk) = serRes s l
 few : ∀ r ∈ serRes s l, r.2.length ≤ 100
 len : l.length ≤ 8
 s8 : s.length = 8
 cnt : playN m l s pk = cntAll m.toNat l
 n64 : cntAll m.toNat l ≤ 64
theorem played {m : Int} {l : List TxA} {s pk : List Int} (h : playE m l s pk = 0) : Played m l s pk := by
 have hb : begE m l s = 0 := firstNZ_zero _ h 0
 have e : playS m l s pk = endX m.toNat l pk s := if_pos h
 obtain ⟨hp, h8⟩ := beg_zero hb
 obtain ⟨h1, h4, hc⟩ := planE_zero hp
 have W := way_of (pk := pk) hb
 obtain ⟨e1, e2, _, _⟩ := end_same pk (sh := m.toNat) (by omega) h8 (fun n hn => good_of (chkL_in hc n hn))
 have st0 : stE m l (endX m.toNat l pk s) = 0 := W.st _ (Nat.le_refl _)
 have ov0 : ovE m l (endX m.toNat l pk s) = true := (W.ov _ (Nat.le_refl _)).trans (decide_eq_true rfl)
 have re0 : rsE m l (endX m.toNat l pk s) = 0 := by unfold rsE; rw [if_pos st0, ov0]; rfl
 have rl0 : resL l (endX m.toNat l pk s) l.length = serRes s l := e2
 have fw := resL_few st0
 rw [rl0] at fw
 refine ⟨?_, by rw [e]; exact e1, by rw [e]; exact re0, ?_, fw, chkL_len hc, h8, if_pos h, W.n⟩
 ·unfold serE lenE
  rw [if_pos h8, hc]
  rfl
 ·rw [e]
  unfold rsL
  rw [if_pos re0, rl0]
variable (la : Option Addr) (lc : Nat) (l : List TxA) (sa : Option Addr) (sc : Nat) (s : List Int) (pa : Option Addr) (pc : Nat) (pk : List Int)
set_option maxHeartbeats 4000000 in
theorem playSame_walk (m : Int) (w : World) (hl : IsTxs w la l) (hs : IsInts w sa s) (hp : IsInts w pa pk) (hw : ∀ i, i < pk.length → (Lit.int .i64 (pk.getD i 0)).wf = true) (hpc : pk.length ≤ pc) :
  Calls Tryz.prog 10 #[.agg #[.int .i64 m, .slice la l.length lc], .slice sa s.length sc, .slice pa pk.length pc] w fun e w' => e = .returned (.bool true) ∧ Below w.heap.size w w' := by
 have gW : Hid (Below w.heap.size w (w.alloc (.cells #[.int .i64 m, .slice la l.length lc] 24))) := grow_alloc (Below.refl _ _) _
 have p0 : (w.alloc (.cells #[.int .i64 m, .slice la l.length lc] 24)).cell? ⟨w.heap.size, 0, none⟩ = some (.int .i64 m) := at_new _ _ 24 _ 0 _ rfl rfl
 have p1 : (w.alloc (.cells #[.int .i64 m, .slice la l.length lc] 24)).cell? ⟨w.heap.size, 1, none⟩ = some (.slice la l.length lc) := at_new _ _ 24 _ 1 _ rfl rfl
 have HL : Hid (IsTxs (w.alloc (.cells #[.int .i64 m, .slice la l.length lc] 24)) la l) := hl.below gW.out
 have HS : Hid (IsInts (w.alloc (.cells #[.int .i64 m, .slice la l.length lc] 24)) sa s) := hs.below gW.out
 have CP : Hid (Calls Tryz.prog 30 #[.agg #[.int .i64 m, .slice la l.length lc], .slice sa s.length sc, .slice pa pk.length pc] (w.alloc (.cells #[.int .i64 m, .slice la l.length lc] 24)) fun e w' => ∃ q : Q4, e = .returned (.tuple #[.agg #[.slice q.sa q.sn q.sc, .slice q.ra q.rn q.rc, .slice q.wa q.wn q.tc, .slice q.va q.vn q.vc], .int .i64 (playN m l s pk : Nat), .int .i64 (playE m l s pk)]) ∧ StaF (w.alloc (.cells #[.int .i64 m, .slice la l.length lc] 24)).heap.size (playS m l s pk) q w' ∧ Below (w.alloc (.cells #[.int .i64 m, .slice la l.length lc] 24)).heap.size (w.alloc (.cells #[.int .i64 m, .slice la l.length lc] 24)) w') := play_any la lc l sa sc s pa pc pk m _ HL.out HS.out (hp.below gW.out) hpc hw
 clear hl hs hp hw hpc
 by_cases hE : playE m l s pk = 0
 ·have PD : Hid (Played m l s pk) := played hE
  rw [hE] at CP
  clear hE
  go_enter Tryz.func10, Tryz.ntmps10
  go_upto_region 1 with fail
  generalize (w.alloc (.cells #[.int .i64 m, .slice la l.length lc] 24)) = W at *
  go_wp2_with fail
  refine CP.out.mono ?_
  rintro e w1 ⟨q, rfl, hq, hb1⟩
  have gA : Below w1.heap.size w1 (w1.alloc (.cells #[.slice q.sa q.sn q.sc, .slice q.ra q.rn q.rc, .slice q.wa q.wn q.tc, .slice q.va q.vn q.vc] 29)) := grow_alloc (Below.refl _ _) _
  have gV : Hid (Below W.heap.size W (w1.alloc (.cells #[.slice q.sa q.sn q.sc, .slice q.ra q.rn q.rc, .slice q.wa q.wn q.tc, .slice q.va q.vn q.vc] 29))) := grow_trans hb1 gA
  have hqq : Hid (StaQ (playS m l s pk) q (w1.alloc (.cells #[.slice q.sa q.sn q.sc, .slice q.ra q.rn q.rc, .slice q.wa q.wn q.tc, .slice q.va q.vn q.vc] 29))) := hq.sta.below gA
  have p0 := ext_cell gV.out p0
  have p1 := ext_cell gV.out p1
  have ESN : Hid (q.sn = (serEnd s l).length) := hq.sta.1.trans (by rw [PD.out.st])
  have k0 : (w1.alloc (.cells #[.slice q.sa q.sn q.sc, .slice q.ra q.rn q.rc, .slice q.wa q.wn q.tc, .slice q.va q.vn q.vc] 29)).cell? ⟨w1.heap.size, 0, none⟩ = some (.slice q.sa q.sn q.sc) := at_new _ _ 29 _ 0 _ rfl rfl
  have k1 : (w1.alloc (.cells #[.slice q.sa q.sn q.sc, .slice q.ra q.rn q.rc, .slice q.wa q.wn q.tc, .slice q.va q.vn q.vc] 29)).cell? ⟨w1.heap.size, 1, none⟩ = some (.slice q.ra q.rn q.rc) := at_new _ _ 29 _ 1 _ rfl rfl
  have k2 : (w1.alloc (.cells #[.slice q.sa q.sn q.sc, .slice q.ra q.rn q.rc, .slice q.wa q.wn q.tc, .slice q.va q.vn q.vc] 29)).cell? ⟨w1.heap.size, 2, none⟩ = some (.slice q.wa q.wn q.tc) := at_new _ _ 29 _ 2 _ rfl rfl
  have k3 : (w1.alloc (.cells #[.slice q.sa q.sn q.sc, .slice q.ra q.rn q.rc, .slice q.wa q.wn q.tc, .slice q.va q.vn q.vc] 29)).cell? ⟨w1.heap.size, 3, none⟩ = some (.slice q.va q.vn q.vc) := at_new _ _ 29 _ 3 _ rfl rfl
  clear hq hb1 gA CP
  generalize playN m l s pk = N at *
  go_upto_region 2 with fail
  generalize (w1.alloc (.cells #[.slice q.sa q.sn q.sc, .slice q.ra q.rn q.rc, .slice q.wa q.wn q.tc, .slice q.va q.vn q.vc] 29)) = V at *
  generalize w1.heap.size = b1 at *
  go_wp2_with fail
  refine (results_any la lc l q (playS m l s pk) m _ (HL.out.below gV.out) hqq.out).mono ?_
  rintro e w2 ⟨xa, xc, rfl, hx, hb2⟩
  rw [PD.out.re, PD.out.rl]
  rw [PD.out.rl] at hx
  have p0 := ext_cell hb2 p0
  have p1 := ext_cell hb2 p1
  have k0 := ext_cell hb2 k0
  go_wp2_with fail
  refine (serial_any sa la sc lc s l _ ?_ ?_).mono ?_
  ·exact HS.out.below (grow_trans gV.out hb2)
  ·exact HL.out.below (grow_trans gV.out hb2)
  rintro e w3 ⟨ea, ec, ya, yc, rfl, hso, hb3⟩
  have es1 : sEnd s l = serEnd s l := if_pos PD.out.ser
  have es2 : sRes s l = serRes s l := if_pos PD.out.ser
  rw [PD.out.ser, es1, es2]
  rw [es1, es2] at hso
  have k0 := ext_cell hb3 k0
  have B3 : Hid (Below w.heap.size w w3) := grow_trans gW.out (grow_trans gV.out (grow_trans hb2 hb3))
  have HX : Hid (IsRes w3 xa (serRes s l)) := hx.below hb3
  have HY : Hid (IsRes w3 ya (serRes s l)) := hso.res
  have HI : Hid (IsInts w3 q.sa (serEnd s l)) := by
   have h := hqq.out.2.2.2.2.st.below (grow_trans hb2 hb3)
   rw [PD.out.st] at h
   exact h
  have HJ : Hid (IsInts w3 ea (serEnd s l)) := hso.ints
  have len1 : (serEnd s l).length = s.length := serEnd_len _ _
  have len2 : (serRes s l).length = l.length := serRes_len _ _
  have h8 := PD.out.s8
  have hl8 := PD.out.len
  have FEW : Hid (∀ r ∈ serRes s l, r.2.length ≤ 100) := PD.out.few
  have hm : (serEnd s l).length ≤ maxLen := by unfold maxLen; omega
  have hR : (serRes s l).length ≤ 100 := by omega
  rw [ESN.out] at k0
  clear hso hx hb2 hb3 p0 p1 k1 k2 k3 es1 es2 ESN PD hqq HL HS gV gW len1 len2 h8 hl8
  generalize serEnd s l = E at *
  generalize serRes s l = R at *
  go_wp2_with fail
  refine (playBegun_any _).mono ?_
  rintro e w4 ⟨rfl, hb4⟩
  have k0 := ext_cell hb4 k0
  go_wp2_with fail
  refine (sameInts_any E E q.sa ea q.sc ec _ hm (HI.out.below hb4) (HJ.out.below hb4)).mono ?_
  rintro e w5 ⟨rfl, hb5⟩
  rw [decide_eq_true rfl]
  go_wp2_with fail
  refine (sameResults_eq R xa ya xc yc _ hR FEW.out (HX.out.below (grow_trans hb4 hb5)) (HY.out.below (grow_trans hb4 hb5))).mono ?_
  rintro e w6 ⟨rfl, hb6⟩
  go_wp2
  go_ret
  exact ⟨rfl, grow_trans B3.out (grow_trans hb4 (grow_trans hb5 hb6))⟩
 ·generalize playE m l s pk = E at *
  generalize playN m l s pk = N at *
  go_enter Tryz.func10, Tryz.ntmps10
  go_upto_region 1 with fail
  generalize (w.alloc (.cells #[.int .i64 m, .slice la l.length lc] 24)) = W at *
  go_wp2_with fail
  refine CP.out.mono ?_
  rintro e w1 ⟨q, rfl, hq, hb1⟩
  go_wp2_with fail
  refine (playBegun_any _).mono ?_
  rintro e w4 ⟨rfl, hb4⟩
  have B4 : Hid (Below w.heap.size w w4) := grow_trans gW.out (grow_trans hb1 (grow_trans (grow_alloc (Below.refl _ _) _) hb4))
  clear hb1 hb4
  go_wp2
  go_ret
  exact ⟨rfl, B4.out⟩
end Go.Proofs.YtebjkmknhpgemaaGreat
