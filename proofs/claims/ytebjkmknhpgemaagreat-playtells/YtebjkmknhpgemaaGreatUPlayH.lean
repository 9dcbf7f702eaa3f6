/-
  
  Conditions: those that each theorem states.
-/
import Derived.Test.YtebjkmknhpgemaaGreatUPlayF
set_option maxRecDepth 100000
namespace Go.Proofs.YtebjkmknhpgemaaGreat
open Go.RowKit
def EPC : SA := cR 2 (th3 none none none none none none 0 0 0 0 0 0) gQ [2, -1, 7]
def RPC : List (Bool × List Int) := rsL 2 (th3 none none none none none none 0 0 0 0 0 0) EPC
section
variable (ra ga sa ra2 sa2 sa3 : Option Addr) (rc gc sc rc2 sc2 sc3 : Nat)
theorem th_pe : cW 2 (th3 ra ga sa ra2 sa2 sa3 rc gc sc rc2 sc2 sc3) gQ [2, -1, 7] = 0 := by kernel_rfl
theorem th_pn : gE 2 (th3 ra ga sa ra2 sa2 sa3 rc gc sc rc2 sc2 sc3) gQ [2, -1, 7] = 8 := by kernel_rfl
theorem th_ps : cR 2 (th3 ra ga sa ra2 sa2 sa3 rc gc sc rc2 sc2 sc3) gQ [2, -1, 7] = EPC := by kernel_rfl
theorem th_re : pQ 2 (th3 ra ga sa ra2 sa2 sa3 rc gc sc rc2 sc2 sc3) EPC = 0 := by kernel_rfl
theorem th_rl : rsL 2 (th3 ra ga sa ra2 sa2 sa3 rc gc sc rc2 sc2 sc3) EPC = RPC := by kernel_rfl
theorem th_r8 : pQ 2 (th3 ra ga sa ra2 sa2 sa3 rc gc sc rc2 sc2 sc3) STC = 8 := by kernel_rfl
end
theorem epc_st : EPC.st = [2, 4, 0, 0, 0, 4, 0, 9] := by kernel_rfl
theorem rpc_len : RPC.length = 3 := by kernel_rfl
theorem rpc_0 : (RPC.getD 0 (false, [])).1 = true := by kernel_rfl
structure Pl (l : List TxA) : Prop where
 pe : cW 2 l gQ [2, -1, 7] = 0
 pn : gE 2 l gQ [2, -1, 7] = 8
 ps : cR 2 l gQ [2, -1, 7] = EPC
 re : pQ 2 l EPC = 0
 rl : rsL 2 l EPC = RPC
 r8 : pQ 2 l STC = 8
 beg : dX 2 l gQ = 0
 stc : nL 2 l gQ = STC
theorem kQ (w : World) : Calls Tryz.prog 56 #[] w fun e w' => ∃ l a, e = .returned (.agg #[.int .i64 2, .slice a l.length 3]) ∧ Hid (IsTxs w' a l) ∧ Hid (Pl l) ∧ Below w.heap.size w w' := by
 refine (three_any w).mono ?_
 rintro e w' ⟨a, ra, ga, sa, rc, gc, sc, ra2, sa2, rc2, sc2, sa3, sc3, rfl, hl, hb⟩
 exact ⟨th3 ra ga sa ra2 sa2 sa3 rc gc sc rc2 sc2 sc3, a, rfl, hl, ⟨th_pe _ _ _ _ _ _ _ _ _ _ _ _, th_pn _ _ _ _ _ _ _ _ _ _ _ _, th_ps _ _ _ _ _ _ _ _ _ _ _ _, th_re _ _ _ _ _ _ _ _ _ _ _ _, th_rl _ _ _ _ _ _ _ _ _ _ _ _, th_r8 _ _ _ _ _ _ _ _ _ _ _ _, th_beg _ _ _ _ _ _ _ _ _ _ _ _, th_stc _ _ _ _ _ _ _ _ _ _ _ _⟩, hb⟩
theorem ints_8 (w : World) (n : Nat) (x0 x1 x2 x3 x4 x5 x6 x7 : Int) (hn : n = w.heap.size) : IsInts (w.alloc (.cells #[.int .i64 x0, .int .i64 x1, .int .i64 x2, .int .i64 x3, .int .i64 x4, .int .i64 x5, .int .i64 x6, .int .i64 x7] 3)) (some ⟨n, 0, none⟩) [x0, x1, x2, x3, x4, x5, x6, x7] := by
 subst hn
 intro i hi
 refine ⟨w.heap.size, 0, rfl, by simp, ?_⟩
 rw [Nat.zero_add]
 match i, hi with
 | 0, _ => exact aE _ _ 3 _ 0 _ rfl rfl
 | 1, _ => exact aE _ _ 3 _ 1 _ rfl rfl
 | 2, _ => exact aE _ _ 3 _ 2 _ rfl rfl
 | 3, _ => exact aE _ _ 3 _ 3 _ rfl rfl
 | 4, _ => exact aE _ _ 3 _ 4 _ rfl rfl
 | 5, _ => exact aE _ _ 3 _ 5 _ rfl rfl
 | 6, _ => exact aE _ _ 3 _ 6 _ rfl rfl
 | 7, _ => exact aE _ _ 3 _ 7 _ rfl rfl
theorem ints_3 (w : World) (n : Nat) (x0 x1 x2 : Int) (hn : n = w.heap.size) : IsInts (w.alloc (.cells #[.int .i64 x0, .int .i64 x1, .int .i64 x2] 3)) (some ⟨n, 0, none⟩) [x0, x1, x2] := by
 subst hn
 intro i hi
 refine ⟨w.heap.size, 0, rfl, by simp, ?_⟩
 rw [Nat.zero_add]
 match i, hi with
 | 0, _ => exact aE _ _ 3 _ 0 _ rfl rfl
 | 1, _ => exact aE _ _ 3 _ 1 _ rfl rfl
 | 2, _ => exact aE _ _ 3 _ 2 _ rfl rfl
set_option maxHeartbeats 4000000 in
theorem pF (w : World) : Calls Tryz.prog 32 #[] w fun e w' => e = .returned (.bool true) ∧ Below w.heap.size w w' := by
 go_enter Tryz.func32, Tryz.ntmps32
 go_wp2_with fail
 refine (kQ _).mono ?_
 rintro e w1 ⟨l1, a1, rfl, hl1, ht1, hb1⟩
 go_wp2_with fail
 refine (five_any _).mono ?_
 rintro e w2 ⟨a2, rfl, hi2, hb2⟩
 go_wp2_with fail
 have gI : Below w2.heap.size w2 (w2.alloc (.cells #[.int .i64 2, .int .i64 (-1), .int .i64 7] 3)) := aB (Below.refl _ _) _
 refine (play_any a1 3 l1 a2 8 gQ (some ⟨w2.heap.size, 0, none⟩) 3 [2, -1, 7] 2 _ (hl1.out.below (aC hb2 gI)) (hi2.out.below gI) (ints_3 _ _ _ _ _ rfl) (by decide) (fun i hi => by match i, hi with | 0, _ => rfl | 1, _ => rfl | 2, _ => rfl)).mono ?_
 rintro e w4 ⟨q, rfl, hq, hb4⟩
 rw [ht1.out.pe, ht1.out.pn]
 rw [ht1.out.ps] at hq
 have gA : Below w4.heap.size w4 (w4.alloc (.cells #[.slice q.sa q.sn q.sc, .slice q.ra q.rn q.rc, .slice q.wa q.wn q.tc, .slice q.va q.vn q.vc] 29)) := aB (Below.refl _ _) _
 have B0 : Hid (Below w.heap.size w (w4.alloc (.cells #[.slice q.sa q.sn q.sc, .slice q.ra q.rn q.rc, .slice q.wa q.wn q.tc, .slice q.va q.vn q.vc] 29))) := aC hb1 (aC hb2 (aC gI (aC hb4 gA)))
 have hqq : Hid (StaQ EPC q (w4.alloc (.cells #[.slice q.sa q.sn q.sc, .slice q.ra q.rn q.rc, .slice q.wa q.wn q.tc, .slice q.va q.vn q.vc] 29))) := hq.sta.below gA
 have k0 : (w4.alloc (.cells #[.slice q.sa q.sn q.sc, .slice q.ra q.rn q.rc, .slice q.wa q.wn q.tc, .slice q.va q.vn q.vc] 29)).cell? ⟨w4.heap.size, 0, none⟩ = some (.slice q.sa q.sn q.sc) := aE _ _ 29 _ 0 _ rfl rfl
 have k1 : (w4.alloc (.cells #[.slice q.sa q.sn q.sc, .slice q.ra q.rn q.rc, .slice q.wa q.wn q.tc, .slice q.va q.vn q.vc] 29)).cell? ⟨w4.heap.size, 1, none⟩ = some (.slice q.ra q.rn q.rc) := aE _ _ 29 _ 1 _ rfl rfl
 have k2 : (w4.alloc (.cells #[.slice q.sa q.sn q.sc, .slice q.ra q.rn q.rc, .slice q.wa q.wn q.tc, .slice q.va q.vn q.vc] 29)).cell? ⟨w4.heap.size, 2, none⟩ = some (.slice q.wa q.wn q.tc) := aE _ _ 29 _ 2 _ rfl rfl
 have k3 : (w4.alloc (.cells #[.slice q.sa q.sn q.sc, .slice q.ra q.rn q.rc, .slice q.wa q.wn q.tc, .slice q.va q.vn q.vc] 29)).cell? ⟨w4.heap.size, 3, none⟩ = some (.slice q.va q.vn q.vc) := aE _ _ 29 _ 3 _ rfl rfl
 clear hb1 hb2 hb4 gA gI hq hl1 ht1 hi2
 go_upto_region 2 with fail
 generalize (w4.alloc (.cells #[.slice q.sa q.sn q.sc, .slice q.ra q.rn q.rc, .slice q.wa q.wn q.tc, .slice q.va q.vn q.vc] 29)) = V at *
 generalize w4.heap.size = b1 at *
 have KS : Hid (∀ w', Below V.heap.size V w' → w'.cell? ⟨b1, 0, none⟩ = some (.slice q.sa q.sn q.sc) ∧ w'.cell? ⟨b1, 1, none⟩ = some (.slice q.ra q.rn q.rc) ∧ w'.cell? ⟨b1, 2, none⟩ = some (.slice q.wa q.wn q.tc) ∧ w'.cell? ⟨b1, 3, none⟩ = some (.slice q.va q.vn q.vc)) := fun w' hb => ⟨aA hb k0, aA hb k1, aA hb k2, aA hb k3⟩
 refine wp_region_held_drew (S := fun w' => w'.cell? ⟨b1, 0, none⟩ = some (.slice q.sa q.sn q.sc) ∧ w'.cell? ⟨b1, 1, none⟩ = some (.slice q.ra q.rn q.rc) ∧ w'.cell? ⟨b1, 2, none⟩ = some (.slice q.wa q.wn q.tc) ∧ w'.cell? ⟨b1, 3, none⟩ = some (.slice q.va q.vn q.vc)) (by kernel_rfl) ?_ (fun hHeld => ?_)
 ·exact KS.out _ (aD (Below.refl _ _))
 refine tk (i := 1) (oi := { dst := some 20, op := .load 29 (.tmp 1), type := 29, pos := "two.go:135", after := #[], guard := none }) (v := ?_) rfl (by kernel_rfl) (by kernel_rfl) (by kernel_rfl) (fun _ _ _ h => h) (by rfl) (by assumption) ?_ ?_; rotate_left; focus (intro w hSw; go_simp; first | done | with_reducible rfl)
 try simp only [Act.put, List.setIfInBounds_toArray, List.set_cons_zero, List.set_cons_succ]
 refine wpAnyH_ready (rs := [0]) (by kernel_rfl) (by simp) ?_
 refine AllReadyH.cons (o := { dst := some 19, op := .call { callee := .value (.func 56), args := #[], argTypes := #[] }, type := 24, pos := "two.go:135", after := #[], guard := none }) rfl (fun K hK => ?_) AllReadyH.nil
 go_simp
 go_wp2_with (go_at_call 56; refine (kQ _).mono ?_; rintro e wa ⟨la, aa, rfl, hla, hta, hba⟩)
 have Ba : Hid (Below V.heap.size V wa) := aC (aD (Below.refl _ _)) hba
 clear hHeld
 refine hK.out _ _ (KS.out _ Ba.out) (fun hHeld => ?_)
 clear hK K
 refine wpAnyH_ready (rs := [2]) (by kernel_rfl) (by simp) ?_
 refine AllReadyH.cons (o := { dst := some 21, op := .call { callee := .value (.func 33), args := #[.tmp 19, .tmp 20], argTypes := #[24, 29] }, type := 59, pos := "two.go:135", after := #[{ on := 0, ground := .data }, { on := 1, ground := .data }, { on := 0, ground := .chain }], guard := none }) rfl (fun K hK => ?_) AllReadyH.nil
 go_simp
 go_wp2_with (go_at_call 33; refine (mR aa 3 la q EPC 2 _ hla.out (hqq.out.below Ba.out)).mono ?_; rintro e wb ⟨xa, xc, rfl, hr, hbb⟩)
 have Bb : Hid (Below V.heap.size V wb) := aC Ba.out hbb
 rw [hta.out.re, hta.out.rl, rpc_len]
 rw [hta.out.rl] at hr
 clear hHeld
 refine hK.out _ _ (KS.out _ Bb.out) (fun hHeld => ?_)
 clear hK K
 refine tk (i := 3) (oi := { dst := some 18, op := .move (.tmp 21), type := 59, pos := "two.go:135", after := #[{ on := 2, ground := .data }], guard := none }) (v := ?_) rfl (by kernel_rfl) (by kernel_rfl) (by kernel_rfl) (fun _ _ _ h => h) (by rfl) (by assumption) ?_ ?_; rotate_left; focus (intro w hSw; go_simp; first | done | with_reducible rfl)
 try simp only [Act.put, List.setIfInBounds_toArray, List.set_cons_zero, List.set_cons_succ]
 refine tk (i := 4) (oi := { dst := some 22, op := .extract (.tmp 18) 0, type := 58, pos := "two.go:135", after := #[{ on := 3, ground := .data }], guard := none }) (v := ?_) rfl (by kernel_rfl) (by kernel_rfl) (by kernel_rfl) (fun _ _ _ h => h) (by rfl) (by assumption) ?_ ?_; rotate_left; focus (intro w hSw; go_simp; first | done | with_reducible rfl)
 try simp only [Act.put, List.setIfInBounds_toArray, List.set_cons_zero, List.set_cons_succ]
 refine tk (i := 5) (oi := { dst := some 23, op := .extract (.tmp 18) 1, type := 30, pos := "two.go:135", after := #[{ on := 3, ground := .data }, { on := 6, ground := .gcOnly Departure.lateStores }], guard := none }) (v := ?_) rfl (by kernel_rfl) (by kernel_rfl) (by kernel_rfl) (fun _ _ _ h => h) (by rfl) (by assumption) ?_ ?_; rotate_left; focus (intro w hSw; go_simp; first | done | with_reducible rfl)
 try simp only [Act.put, List.setIfInBounds_toArray, List.set_cons_zero, List.set_cons_succ]
 refine tk (i := 6) (oi := { dst := some 4, op := .assign (.tmp 22), type := 58, pos := "two.go:135", after := #[{ on := 4, ground := .data }, { on := 2, ground := .chain }, { on := 0, ground := .phase }, { on := 1, ground := .phase }, { on := 2, ground := .phase }, { on := 3, ground := .phase }, { on := 4, ground := .phase }, { on := 5, ground := .textOnly Departure.lateStores }], guard := none }) (v := ?_) rfl (by kernel_rfl) (by kernel_rfl) (by kernel_rfl) (fun _ _ _ h => h) (by rfl) (by assumption) ?_ ?_; rotate_left; focus (intro w hSw; go_simp; first | done | with_reducible rfl)
 try simp only [Act.put, List.setIfInBounds_toArray, List.set_cons_zero, List.set_cons_succ]
 refine tk (i := 7) (oi := { dst := some 5, op := .assign (.tmp 23), type := 30, pos := "two.go:135", after := #[{ on := 5, ground := .data }, { on := 6, ground := .chain }, { on := 0, ground := .phase }, { on := 1, ground := .phase }, { on := 2, ground := .phase }, { on := 3, ground := .phase }, { on := 4, ground := .phase }, { on := 5, ground := .phase }, { on := 6, ground := .phase }], guard := none }) (v := ?_) rfl (by kernel_rfl) (by kernel_rfl) (by kernel_rfl) (fun _ _ _ h => h) (by rfl) (by assumption) ?_ ?_; rotate_left; focus (intro w hSw; go_simp; first | done | with_reducible rfl)
 try simp only [Act.put, List.setIfInBounds_toArray, List.set_cons_zero, List.set_cons_succ]
 refine wpAnyH_done (by kernel_rfl) ?_ _
 clear hHeld KS
 have k0 := aA Bb.out k0
 have B1 : Hid (Below w.heap.size w wb) := aC B0.out Bb.out
 have esn : q.sn = 8 := hqq.out.1.trans (by rw [epc_st]; rfl)
 have HI : Hid (IsInts wb q.sa [2, 4, 0, 0, 0, 4, 0, 9]) := by
  have h := hqq.out.2.2.2.2.st.below Bb.out
  rw [epc_st] at h
  exact h
 obtain ⟨xb, xo, va, vc, rfl, _, r0, _, _⟩ := hr 0 (by rw [rpc_len]; decide)
 rw [rpc_0, Nat.zero_mul, Nat.add_zero] at r0
 rw [esn] at k0
 clear hr hbb hba Ba Bb hla hta k1 k2 k3 hqq B0
 obtain ⟨W, hren⟩ : ∃ W : World, W = wb := ⟨_, rfl⟩
 subst hren
 go_wp2_with fail
 refine (kQ _).mono ?_
 rintro e w5 ⟨l5, a5, rfl, hl5, ht5, hb5⟩
 go_wp2_with fail
 refine (five_any _).mono ?_
 rintro e w6 ⟨a6, rfl, hi6, hb6⟩
 go_wp2_with fail
 refine (eT a5 3 l5 a6 8 gQ 2 _ (hl5.out.below hb6) hi6.out).mono ?_
 rintro e w7 ⟨y, rfl, hy, hb7⟩
 rw [ht5.out.beg]
 rw [ht5.out.stc] at hy
 have gA : Below w7.heap.size w7 (w7.alloc (.cells #[.slice y.sa y.sn y.sc, .slice y.ra y.rn y.rc, .slice y.wa y.wn y.tc, .slice y.va y.vn y.vc] 29)) := aB (Below.refl _ _) _
 have gW : Below W.heap.size W (w7.alloc (.cells #[.slice y.sa y.sn y.sc, .slice y.ra y.rn y.rc, .slice y.wa y.wn y.tc, .slice y.va y.vn y.vc] 29)) := aC hb5 (aC hb6 (aC hb7 gA))
 have J0 := aA gW k0
 have R0 := aA gW r0
 have HI2 : Hid (IsInts (w7.alloc (.cells #[.slice y.sa y.sn y.sc, .slice y.ra y.rn y.rc, .slice y.wa y.wn y.tc, .slice y.va y.vn y.vc] 29)) q.sa [2, 4, 0, 0, 0, 4, 0, 9]) := HI.out.below gW
 have B2 : Hid (Below w.heap.size w (w7.alloc (.cells #[.slice y.sa y.sn y.sc, .slice y.ra y.rn y.rc, .slice y.wa y.wn y.tc, .slice y.va y.vn y.vc] 29))) := aC B1.out gW
 have hyy : Hid (StaQ STC y (w7.alloc (.cells #[.slice y.sa y.sn y.sc, .slice y.ra y.rn y.rc, .slice y.wa y.wn y.tc, .slice y.va y.vn y.vc] 29))) := hy.sta.below gA
 have k0 : (w7.alloc (.cells #[.slice y.sa y.sn y.sc, .slice y.ra y.rn y.rc, .slice y.wa y.wn y.tc, .slice y.va y.vn y.vc] 29)).cell? ⟨w7.heap.size, 0, none⟩ = some (.slice y.sa y.sn y.sc) := aE _ _ 29 _ 0 _ rfl rfl
 have k1 : (w7.alloc (.cells #[.slice y.sa y.sn y.sc, .slice y.ra y.rn y.rc, .slice y.wa y.wn y.tc, .slice y.va y.vn y.vc] 29)).cell? ⟨w7.heap.size, 1, none⟩ = some (.slice y.ra y.rn y.rc) := aE _ _ 29 _ 1 _ rfl rfl
 have k2 : (w7.alloc (.cells #[.slice y.sa y.sn y.sc, .slice y.ra y.rn y.rc, .slice y.wa y.wn y.tc, .slice y.va y.vn y.vc] 29)).cell? ⟨w7.heap.size, 2, none⟩ = some (.slice y.wa y.wn y.tc) := aE _ _ 29 _ 2 _ rfl rfl
 have k3 : (w7.alloc (.cells #[.slice y.sa y.sn y.sc, .slice y.ra y.rn y.rc, .slice y.wa y.wn y.tc, .slice y.va y.vn y.vc] 29)).cell? ⟨w7.heap.size, 3, none⟩ = some (.slice y.va y.vn y.vc) := aE _ _ 29 _ 3 _ rfl rfl
 clear hb5 hb6 hb7 gA gW hy hl5 ht5 hi6 B1 HI r0
 go_upto_region 4 with fail
 generalize (w7.alloc (.cells #[.slice y.sa y.sn y.sc, .slice y.ra y.rn y.rc, .slice y.wa y.wn y.tc, .slice y.va y.vn y.vc] 29)) = V at *
 generalize w7.heap.size = b7 at *
 have KS : Hid (∀ w', Below V.heap.size V w' → w'.cell? ⟨b7, 0, none⟩ = some (.slice y.sa y.sn y.sc) ∧ w'.cell? ⟨b7, 1, none⟩ = some (.slice y.ra y.rn y.rc) ∧ w'.cell? ⟨b7, 2, none⟩ = some (.slice y.wa y.wn y.tc) ∧ w'.cell? ⟨b7, 3, none⟩ = some (.slice y.va y.vn y.vc)) := fun w' hb => ⟨aA hb k0, aA hb k1, aA hb k2, aA hb k3⟩
 refine wp_region_held_drew (S := fun w' => w'.cell? ⟨b7, 0, none⟩ = some (.slice y.sa y.sn y.sc) ∧ w'.cell? ⟨b7, 1, none⟩ = some (.slice y.ra y.rn y.rc) ∧ w'.cell? ⟨b7, 2, none⟩ = some (.slice y.wa y.wn y.tc) ∧ w'.cell? ⟨b7, 3, none⟩ = some (.slice y.va y.vn y.vc)) (by kernel_rfl) ?_ (fun hHeld => ?_)
 ·exact KS.out _ (aD (Below.refl _ _))
 refine tk (i := 1) (oi := { dst := some 32, op := .load 29 (.tmp 6), type := 29, pos := "two.go:137", after := #[], guard := none }) (v := ?_) rfl (by kernel_rfl) (by kernel_rfl) (by kernel_rfl) (fun _ _ _ h => h) (by rfl) (by assumption) ?_ ?_; rotate_left; focus (intro w hSw; go_simp; first | done | with_reducible rfl)
 try simp only [Act.put, List.setIfInBounds_toArray, List.set_cons_zero, List.set_cons_succ]
 refine wpAnyH_ready (rs := [0]) (by kernel_rfl) (by simp) ?_
 refine AllReadyH.cons (o := { dst := some 31, op := .call { callee := .value (.func 56), args := #[], argTypes := #[] }, type := 24, pos := "two.go:137", after := #[], guard := none }) rfl (fun K hK => ?_) AllReadyH.nil
 go_simp
 go_wp2_with (go_at_call 56; refine (kQ _).mono ?_; rintro e wa ⟨la, aa, rfl, hla, hta, hba⟩)
 have Ba : Hid (Below V.heap.size V wa) := aC (aD (Below.refl _ _)) hba
 clear hHeld
 refine hK.out _ _ (KS.out _ Ba.out) (fun hHeld => ?_)
 clear hK K
 refine wpAnyH_ready (rs := [2]) (by kernel_rfl) (by simp) ?_
 refine AllReadyH.cons (o := { dst := some 33, op := .call { callee := .value (.func 33), args := #[.tmp 31, .tmp 32], argTypes := #[24, 29] }, type := 59, pos := "two.go:137", after := #[{ on := 0, ground := .data }, { on := 1, ground := .data }, { on := 0, ground := .chain }], guard := none }) rfl (fun K hK => ?_) AllReadyH.nil
 go_simp
 go_wp2_with (go_at_call 33; refine (mR aa 3 la y STC 2 _ hla.out (hyy.out.below Ba.out)).mono ?_; rintro e wb ⟨ya, yc, rfl, hr, hbb⟩)
 have Bb : Hid (Below V.heap.size V wb) := aC Ba.out hbb
 rw [hta.out.r8]
 clear hHeld
 refine hK.out _ _ (KS.out _ Bb.out) (fun hHeld => ?_)
 clear hK K
 refine tk (i := 3) (oi := { dst := some 30, op := .move (.tmp 33), type := 59, pos := "two.go:137", after := #[{ on := 2, ground := .data }], guard := none }) (v := ?_) rfl (by kernel_rfl) (by kernel_rfl) (by kernel_rfl) (fun _ _ _ h => h) (by rfl) (by assumption) ?_ ?_; rotate_left; focus (intro w hSw; go_simp; first | done | with_reducible rfl)
 try simp only [Act.put, List.setIfInBounds_toArray, List.set_cons_zero, List.set_cons_succ]
 refine tk (i := 4) (oi := { dst := some 34, op := .extract (.tmp 30) 0, type := 58, pos := "two.go:137", after := #[{ on := 3, ground := .data }], guard := none }) (v := ?_) rfl (by kernel_rfl) (by kernel_rfl) (by kernel_rfl) (fun _ _ _ h => h) (by rfl) (by assumption) ?_ ?_; rotate_left; focus (intro w hSw; go_simp; first | done | with_reducible rfl)
 try simp only [Act.put, List.setIfInBounds_toArray, List.set_cons_zero, List.set_cons_succ]
 refine tk (i := 5) (oi := { dst := some 35, op := .extract (.tmp 30) 1, type := 30, pos := "two.go:137", after := #[{ on := 3, ground := .data }, { on := 6, ground := .gcOnly Departure.lateStores }], guard := none }) (v := ?_) rfl (by kernel_rfl) (by kernel_rfl) (by kernel_rfl) (fun _ _ _ h => h) (by rfl) (by assumption) ?_ ?_; rotate_left; focus (intro w hSw; go_simp; first | done | with_reducible rfl)
 try simp only [Act.put, List.setIfInBounds_toArray, List.set_cons_zero, List.set_cons_succ]
 refine tk (i := 6) (oi := { dst := some 8, op := .assign (.tmp 34), type := 58, pos := "two.go:137", after := #[{ on := 4, ground := .data }, { on := 2, ground := .chain }, { on := 0, ground := .phase }, { on := 1, ground := .phase }, { on := 2, ground := .phase }, { on := 3, ground := .phase }, { on := 4, ground := .phase }, { on := 5, ground := .textOnly Departure.lateStores }], guard := none }) (v := ?_) rfl (by kernel_rfl) (by kernel_rfl) (by kernel_rfl) (fun _ _ _ h => h) (by rfl) (by assumption) ?_ ?_; rotate_left; focus (intro w hSw; go_simp; first | done | with_reducible rfl)
 try simp only [Act.put, List.setIfInBounds_toArray, List.set_cons_zero, List.set_cons_succ]
 refine tk (i := 7) (oi := { dst := some 9, op := .assign (.tmp 35), type := 30, pos := "two.go:137", after := #[{ on := 5, ground := .data }, { on := 6, ground := .chain }, { on := 0, ground := .phase }, { on := 1, ground := .phase }, { on := 2, ground := .phase }, { on := 3, ground := .phase }, { on := 4, ground := .phase }, { on := 5, ground := .phase }, { on := 6, ground := .phase }], guard := none }) (v := ?_) rfl (by kernel_rfl) (by kernel_rfl) (by kernel_rfl) (fun _ _ _ h => h) (by rfl) (by assumption) ?_ ?_; rotate_left; focus (intro w hSw; go_simp; first | done | with_reducible rfl)
 try simp only [Act.put, List.setIfInBounds_toArray, List.set_cons_zero, List.set_cons_succ]
 refine wpAnyH_done (by kernel_rfl) ?_ _
 clear hHeld KS
 have J0 := aA Bb.out J0
 have R0 := aA Bb.out R0
 have HI3 : Hid (IsInts wb q.sa [2, 4, 0, 0, 0, 4, 0, 9]) := HI2.out.below Bb.out
 have B3 : Hid (Below w.heap.size w wb) := aC B2.out Bb.out
 clear hr hbb hba Ba Bb hla hta k0 k1 k2 k3 hyy B2 HI2
 go_wp2_with fail
 have g8 : Below wb.heap.size wb (wb.alloc (.cells #[.int .i64 2, .int .i64 4, .int .i64 0, .int .i64 0, .int .i64 0, .int .i64 4, .int .i64 0, .int .i64 9] 3)) := aB (Below.refl _ _) _
 refine (kW [2, 4, 0, 0, 0, 4, 0, 9] [2, 4, 0, 0, 0, 4, 0, 9] q.sa _ q.sc 8 _ (by decide) (HI3.out.below g8) (ints_8 _ _ _ _ _ _ _ _ _ _ rfl)).mono ?_
 rintro e w8 ⟨rfl, hb8⟩
 have R0 := aA hb8 (aA g8 R0)
 have B4 : Hid (Below w.heap.size w w8) := aC B3.out (aC g8 hb8)
 clear g8 B3 J0 hb8
 go_wp2
 go_ret
 exact ⟨rfl, B4.out⟩
end Go.Proofs.YtebjkmknhpgemaaGreat
namespace Go.Proofs.YtebjkmknhpgemaaGreat
open Go.RowKit Go.ChangeShapes Go.WideShapes Go.ChangeAt Go.Deep
theorem open_pk {H : Type} {enc : TypeId × Value → H} {W : World} {base : Nat} {v : Value} {d : DataW H} {p : List MemPlace} (hv : Value.okWide Tryz.prog W .any base 25 v) (h : DataW.Trod enc Tryz.prog W 0 (fun _ => true) true 25 v d p) :
  ∃ (a : Option Addr) (zs : List Int) (cap : Nat), v = .slice a zs.length cap ∧ zs.length ≤ maxLen ∧ IsInts W a zs ∧ (∀ z ∈ zs, (Lit.int .i64 z).wf = true) ∧ zs.length ≤ cap := by
 obtain ⟨a, len, cap, rfl⟩ := okWide_slice Tryz.underlying25 hv
 obtain ⟨fuel, hf⟩ := h
 rcases open_ints Tryz.underlying25 Tryz.underlying3 (by kernel_rfl) hf with ⟨hcs, _⟩ | ⟨x, l, c, zs, hcs, _, hl, hm, hz, _, hcell, hwz⟩
 ·simp [Value.cells] at hcs
  obtain ⟨rfl, rfl, rfl⟩ := hcs
  exact ⟨none, [], 0, rfl, by simp, fun i hi => by simp at hi, by simp, by simp⟩
 ·simp [Value.cells] at hcs
  obtain ⟨rfl, rfl, rfl⟩ := hcs
  have hzl : (zs.take len).length = len := by rw [List.length_take]; simp at hz; omega
  refine ⟨some x, zs.take len, cap, by rw [hzl], by rw [hzl]; omega, fun i hi => ?_, fun z hz' => hwz z (List.mem_of_mem_take hz'), by rw [hzl]; omega⟩
  have hi' : i < len := by omega
  have hc := hcell i (by simp at hz; omega)
  obtain ⟨b, off, spot⟩ := x
  have hspot : spot = none := by simpa [Addr.add] using World.cell?_spot (hcell 0 (by simp at hz; omega))
  subst hspot
  have hc0 : W.cell? ⟨b, off + i, none⟩ = some (.int .i64 (zs.getD i 0)) := by
   rw [← hc]
   by_cases h0 : i = 0
   ·subst h0; simp [Addr.add]
   ·simp [Addr.add, h0]
  refine ⟨b, off, rfl, World.block_lt_of_cell? W _ hc0, ?_⟩
  rw [hc0]
  simp [List.getD, hi']
theorem resL_few {m : Int} {l : List TxA} {S : SA} (h : eF m l S = 0) : ∀ r ∈ iP l S l.length, r.2.length ≤ 100 := by
 obtain ⟨sh, rfl, _, _, hc, _, hf, _⟩ := dL h
 intro r hr
 unfold iP at hr
 obtain ⟨n, hn, rfl⟩ := List.mem_map.1 hr
 have hn' : n < l.length := List.mem_range.1 hn
 have h1 := (dB.1 hf).vn n hn'
 have h2 : (gX l n).rs.length ≤ 4 := (bK _ _ _ (bZ (cI hc n hn')).1).1
 show (S.vs.getD n []).length ≤ 100
 omega
structure Played (m : Int) (l : List TxA) (s pk : List Int) : Prop where
 ser : serE s l = 0
 st : (cR m l s pk).st = cV s l
 re : pQ m l (cR m l s pk) = 0
 rl : rsL m l (cR m l s pk) = eV s l
 few : ∀ r ∈ eV s l, r.2.length ≤ 100
 len : l.length ≤ 8
 s8 : s.length = 8
 cnt : gE m l s pk = aN m.toNat l
 n64 : aN m.toNat l ≤ 64
theorem played {m : Int} {l : List TxA} {s pk : List Int} (h : cW m l s pk = 0) : Played m l s pk := by
 have hb : dX m l s = 0 := bJ _ h 0
 have e : cR m l s pk = iJ m.toNat l pk s := if_pos h
 obtain ⟨hp, h8⟩ := lS hb
 obtain ⟨h1, h4, hc⟩ := aX hp
 have W := lV (pk := pk) hb
 obtain ⟨e1, e2, _, _⟩ := end_same pk (sh := m.toNat) (by omega) h8 (fun n hn => hI (cI hc n hn))
 have st0 : eF m l (iJ m.toNat l pk s) = 0 := W.st _ (Nat.le_refl _)
 have ov0 : ovE m l (iJ m.toNat l pk s) = true := (W.ov _ (Nat.le_refl _)).trans (decide_eq_true rfl)
 have re0 : pQ m l (iJ m.toNat l pk s) = 0 := by unfold pQ; rw [if_pos st0, ov0]; rfl
 have rl0 : iP l (iJ m.toNat l pk s) l.length = eV s l := e2
 have fw := resL_few st0
 rw [rl0] at fw
 refine ⟨?_, by rw [e]; exact e1, by rw [e]; exact re0, ?_, fw, dC hc, h8, if_pos h, W.n⟩
 ·unfold serE dZ
  rw [if_pos h8, hc]
  rfl
 ·rw [e]
  unfold rsL
  rw [if_pos re0, rl0]
variable (la : Option Addr) (lc : Nat) (l : List TxA) (sa : Option Addr) (sc : Nat) (s : List Int) (pa : Option Addr) (pc : Nat) (pk : List Int)
end Go.Proofs.YtebjkmknhpgemaaGreat
