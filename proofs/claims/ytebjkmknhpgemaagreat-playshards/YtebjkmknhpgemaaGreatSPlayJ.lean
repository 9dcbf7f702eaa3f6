/-
  
  Conditions: those that each theorem states.
-/
import Derived.Test.YtebjkmknhpgemaaGreatSPlayH
set_option maxRecDepth 100000
namespace Go.Proofs.YtebjkmknhpgemaaGreat
open Go.RowKit Go.ChangeShapes Go.WideShapes Go.ChangeAt Go.Deep
theorem playE_other {m M : Int} {l : List TxA} {s pk : List Int} (h1 : 1 ≤ M) (h4 : M ≤ 4) (h : playE m l s pk = 0) : playE M l s pk = 0 := by
 have h0 : begE m l s = 0 := firstNZ_zero _ h 0
 have h2 : mpE pk.length = 0 := firstNZ_zero _ h 1
 obtain ⟨hp, h8⟩ := beg_zero h0
 obtain ⟨_, _, hc⟩ := planE_zero hp
 have e1 : planE M l = 0 := by unfold planE; rw [if_neg (by omega), hc]
 have e2 : begE M l s = 0 := by unfold begE lenE; rw [e1, if_pos h8]; rfl
 unfold playE
 rw [e2, h2]
 rfl
variable (la : Option Addr) (lc : Nat) (l : List TxA) (sa : Option Addr) (sc : Nat) (s : List Int) (pa : Option Addr) (pc : Nat) (pk : List Int)
set_option maxHeartbeats 4000000 in
theorem playShards_bad (m n : Int) (w : World) (hl : IsTxs w la l) (hs : IsInts w sa s) (hp : IsInts w pa pk) (hpw : ∀ i, i < pk.length → (Lit.int .i64 (pk.getD i 0)).wf = true) (hpc : pk.length ≤ pc) (hn : (Lit.int .i64 n).wf = true) (hE : ¬ playE m l s pk = 0) :
  Calls Tryz.prog 12 #[.agg #[.int .i64 m, .slice la l.length lc], .slice sa s.length sc, .slice pa pk.length pc, .int .i64 n] w fun e w' => e = .returned (.bool true) ∧ Below w.heap.size w w' := by
 obtain ⟨W, hWe⟩ : ∃ W : World, W = (w.alloc (.cells #[.int .i64 m, .slice la l.length lc] 24)) := ⟨_, rfl⟩
 have gW : Hid (Below w.heap.size w W) := by subst hWe; exact grow_alloc (Below.refl _ _) _
 have p0 : W.cell? ⟨w.heap.size, 0, none⟩ = some (.int .i64 m) := by subst hWe; exact at_new _ _ 24 _ 0 _ rfl rfl
 have p1 : W.cell? ⟨w.heap.size, 1, none⟩ = some (.slice la l.length lc) := by subst hWe; exact at_new _ _ 24 _ 1 _ rfl rfl
 have hc4 := chK_lt n (show 0 < 4 by decide)
 obtain ⟨M, hM⟩ : ∃ M : Int, IntKind.i64.wrap (1 + ((chK n 4 : Nat) : Int)) = M := ⟨_, rfl⟩
 have C1 : Hid (∀ w', Below W.heap.size W w' → Calls Tryz.prog 30 #[.agg #[.int .i64 m, .slice la l.length lc], .slice sa s.length sc, .slice pa pk.length pc] w' fun e w'' => ∃ q : Q4, e = .returned (.tuple #[.agg #[.slice q.sa q.sn q.sc, .slice q.ra q.rn q.rc, .slice q.wa q.wn q.tc, .slice q.va q.vn q.vc], .int .i64 (playN m l s pk : Nat), .int .i64 (playE m l s pk)]) ∧ StaQ (playS m l s pk) q w'' ∧ Below w'.heap.size w' w'') := fun w' hb => (play_any la lc l sa sc s pa pc pk m w' ((hl.below gW.out).below hb) ((hs.below gW.out).below hb) ((hp.below gW.out).below hb) hpc hpw).mono (by rintro e w'' ⟨q, rfl, hq, hb⟩; exact ⟨q, rfl, hq.sta, hb⟩)
 have C2 : Hid (∀ w', Below W.heap.size W w' → Calls Tryz.prog 30 #[.agg #[.int .i64 M, .slice la l.length lc], .slice sa s.length sc, .slice pa pk.length pc] w' fun e w'' => ∃ q : Q4, e = .returned (.tuple #[.agg #[.slice q.sa q.sn q.sc, .slice q.ra q.rn q.rc, .slice q.wa q.wn q.tc, .slice q.va q.vn q.vc], .int .i64 (playN M l s pk : Nat), .int .i64 (playE M l s pk)]) ∧ StaQ (playS M l s pk) q w'' ∧ Below w'.heap.size w' w'') := fun w' hb => (play_any la lc l sa sc s pa pc pk M w' ((hl.below gW.out).below hb) ((hs.below gW.out).below hb) ((hp.below gW.out).below hb) hpc hpw).mono (by rintro e w'' ⟨q, rfl, hq, hb⟩; exact ⟨q, rfl, hq.sta, hb⟩)
 have HM : Hid (IntKind.i64.wrap (1 + ((chK n 4 : Nat) : Int)) = M) := hM
 clear hl hs hp hpw hpc hM
 generalize playN m l s pk = N1 at *
 generalize playN M l s pk = N2 at *
 generalize playE m l s pk = E1 at *
 generalize playE M l s pk = E2 at *
 have HWe : Hid (W = _) := hWe
 clear hWe
 go_enter Tryz.func12, Tryz.ntmps12
 go_upto_region 1 with fail
 rw [← HWe.out]
 clear HWe
 have KS : Hid (∀ w', Below W.heap.size W w' → w'.cell? ⟨w.heap.size, 1, none⟩ = some (.slice la l.length lc)) := fun w' hb => ext_cell hb p1
 refine wp_region_held_drew (S := fun w' => w'.cell? ⟨w.heap.size, 1, none⟩ = some (.slice la l.length lc)) (by kernel_rfl) ?_ (fun hHeld => ?_)
 ·exact KS.out _ (grow_drew (Below.refl _ _))
 refine tk (i := 0) (oi := { dst := some 20, op := .move (.tmp 3), type := 3, pos := "two.go:194", after := #[], guard := none }) (v := ?_) rfl (by kernel_rfl) (by kernel_rfl) (by kernel_rfl) (fun _ _ _ h => h) (by rfl) (by assumption) ?_ ?_; rotate_left; focus (intro w hSw; go_simp; first | done | with_reducible rfl)
 try simp only [Act.put, List.setIfInBounds_toArray, List.set_cons_zero, List.set_cons_succ]
 refine tk (i := 3) (oi := { dst := some 23, op := .fieldAddr 24 (.tmp 4) 1, type := 0, pos := "two.go:194", after := #[], guard := none }) (v := ?_) rfl (by kernel_rfl) (by kernel_rfl) (by kernel_rfl) (fun _ _ _ h => h) (by rfl) (by assumption) ?_ ?_; rotate_left; focus (intro w hSw; go_simp; first | done | with_reducible rfl)
 try simp only [Act.put, List.setIfInBounds_toArray, List.set_cons_zero, List.set_cons_succ]
 refine tk (i := 4) (oi := { dst := some 24, op := .load 22 (.tmp 23), type := 22, pos := "two.go:194", after := #[{ on := 3, ground := .data }], guard := none }) (v := ?_) rfl (by kernel_rfl) (by kernel_rfl) (by kernel_rfl) (fun _ _ _ h => h) (by rfl) (by assumption) ?_ ?_; rotate_left; focus (intro w hSw; go_simp; first | done | with_reducible rfl)
 try simp only [Act.put, List.setIfInBounds_toArray, List.set_cons_zero, List.set_cons_succ]
 refine wpAnyH_ready (rs := [1, 6]) (by kernel_rfl) (by simp) ?_
 refine AllReadyH.cons (o := { dst := some 21, op := .call { callee := .value (.func 29), args := #[.tmp 20, .const (.int .i64 4)], argTypes := #[3, 3] }, type := 3, pos := "two.go:194", after := #[{ on := 0, ground := .data }], guard := none }) rfl (fun K hK => ?_) (AllReadyH.cons (o := { dst := some 9, op := .alloc 24, type := 0, pos := "two.go:194", after := #[], guard := none }) rfl (fun K hK => ?_) AllReadyH.nil)
 ·go_simp
  go_wp2_with (go_at_call 29; refine (choose_is n 4 _ hn (by decide) (by decide)).mono ?_; rintro e w3 ⟨rfl, hwe⟩; subst hwe)
  clear hHeld
  refine hK.out _ _ (KS.out _ (grow_drew (Below.refl _ _))) (fun hHeld => ?_)
  clear hK K
  refine tk (i := 2) (oi := { dst := some 22, op := .binOp .add 3 (.const (.int .i64 1)) (.tmp 21) 3, type := 3, pos := "two.go:194", after := #[{ on := 1, ground := .data }], guard := none }) (v := ?_) rfl (by kernel_rfl) (by kernel_rfl) (by kernel_rfl) (fun _ _ _ h => h) (by rfl) (by assumption) ?_ ?_; rotate_left; focus (intro w hSw; go_simp; first | done | with_reducible rfl)
  try simp only [Act.put, List.setIfInBounds_toArray, List.set_cons_zero, List.set_cons_succ]
  refine tk (i := 5) (oi := { dst := some 25, op := .build 24 #[(0, .tmp 22), (1, .tmp 24)], type := 24, pos := "two.go:194", after := #[{ on := 2, ground := .data }, { on := 4, ground := .data }], guard := none }) (v := ?_) rfl (by kernel_rfl) (by kernel_rfl) (by kernel_rfl) (fun _ _ _ h => h) (by rfl) (by assumption) ?_ ?_; rotate_left; focus (intro w hSw; go_simp; first | done | with_reducible rfl)
  try simp only [Act.put, List.setIfInBounds_toArray, List.set_cons_zero, List.set_cons_succ]
  refine wpAnyH_ready (rs := [6]) (by kernel_rfl) (by simp) ?_
  refine AllReadyH.cons (o := { dst := some 9, op := .alloc 24, type := 0, pos := "two.go:194", after := #[], guard := none }) rfl (fun K hK => ?_) AllReadyH.nil
  go_simp
  skip
  clear hHeld
  refine hK.out _ _ (KS.out _ (grow_alloc (grow_drew (Below.refl _ _)) _)) (fun hHeld => ?_)
  clear hK K
  refine wpAnyH_ready (rs := [7]) (by kernel_rfl) (by simp) ?_
  refine AllReadyH.cons (o := { dst := none, op := .store 24 (.tmp 9) (.tmp 25), type := 0, pos := "two.go:194", after := #[{ on := 6, ground := .data }, { on := 5, ground := .data }, { on := 1, ground := .chain }, { on := 0, ground := .phase }, { on := 1, ground := .phase }, { on := 2, ground := .phase }, { on := 3, ground := .phase }, { on := 4, ground := .phase }, { on := 5, ground := .phase }, { on := 6, ground := .phase }], guard := none }) rfl (fun K hK => ?_) AllReadyH.nil
  go_simp
  skip
  clear hHeld
  refine hK.out _ _ (KS.out _ (grow_alloc (grow_drew (Below.refl _ _)) _)) (fun hHeld => ?_)
  clear hK K
  refine wpAnyH_done (by kernel_rfl) ?_ _
  have OO : Hid (Below W.heap.size W (W.alloc (.cells #[.int .i64 (IntKind.i64.wrap (1 + ((chK n 4 : Nat) : Int))), .slice la l.length lc] 24)).drew) := grow_drew (grow_alloc (Below.refl _ _) _)
  have o0 : (W.alloc (.cells #[.int .i64 (IntKind.i64.wrap (1 + ((chK n 4 : Nat) : Int))), .slice la l.length lc] 24)).drew.cell? ⟨W.heap.size, 0, none⟩ = some (.int .i64 (IntKind.i64.wrap (1 + ((chK n 4 : Nat) : Int)))) := ext_cell (grow_drew (Below.refl _ _)) (at_new _ _ 24 _ 0 _ rfl rfl)
  have o1 : (W.alloc (.cells #[.int .i64 (IntKind.i64.wrap (1 + ((chK n 4 : Nat) : Int))), .slice la l.length lc] 24)).drew.cell? ⟨W.heap.size, 1, none⟩ = some (.slice la l.length lc) := ext_cell (grow_drew (Below.refl _ _)) (at_new _ _ 24 _ 1 _ rfl rfl)
  have p0 := ext_cell OO.out p0
  have p1 := ext_cell OO.out p1
  clear hHeld KS
  generalize (W.alloc (.cells #[.int .i64 (IntKind.i64.wrap (1 + ((chK n 4 : Nat) : Int))), .slice la l.length lc] 24)).drew = X at *
  rw [HM.out] at o0
  go_wp2_with fail
  refine (C1.out _ OO.out).mono ?_
  rintro e w1 ⟨q, rfl, hq, hb1⟩
  have gA : Below w1.heap.size w1 (w1.alloc (.cells #[.slice q.sa q.sn q.sc, .slice q.ra q.rn q.rc, .slice q.wa q.wn q.tc, .slice q.va q.vn q.vc] 29)) := grow_alloc (Below.refl _ _) _
  have gV : Hid (Below X.heap.size X (w1.alloc (.cells #[.slice q.sa q.sn q.sc, .slice q.ra q.rn q.rc, .slice q.wa q.wn q.tc, .slice q.va q.vn q.vc] 29))) := grow_trans hb1 gA
  have p0 := ext_cell gV.out p0
  have p1 := ext_cell gV.out p1
  have o0 := ext_cell gV.out o0
  have o1 := ext_cell gV.out o1
  have BV : Hid (Below W.heap.size W (w1.alloc (.cells #[.slice q.sa q.sn q.sc, .slice q.ra q.rn q.rc, .slice q.wa q.wn q.tc, .slice q.va q.vn q.vc] 29))) := grow_trans OO.out gV.out
  clear hb1 gA C1 hq OO
  go_upto_region 3 with fail
  generalize (w1.alloc (.cells #[.slice q.sa q.sn q.sc, .slice q.ra q.rn q.rc, .slice q.wa q.wn q.tc, .slice q.va q.vn q.vc] 29)) = V at *
  go_wp2_with fail
  refine (C2.out _ BV.out).mono ?_
  rintro e w2 ⟨y, rfl, hy, hb2⟩
  have gU : Hid (Below w.heap.size w (w2.alloc (.cells #[.slice y.sa y.sn y.sc, .slice y.ra y.rn y.rc, .slice y.wa y.wn y.tc, .slice y.va y.vn y.vc] 29))) := grow_trans gW.out (grow_trans BV.out (grow_trans hb2 (grow_alloc (Below.refl _ _) _)))
  clear hb2 C2 hy p0 p1 o0 o1
  go_upto_region 4 with fail
  generalize (w2.alloc (.cells #[.slice y.sa y.sn y.sc, .slice y.ra y.rn y.rc, .slice y.wa y.wn y.tc, .slice y.va y.vn y.vc] 29)) = U at *
  go_wp2_with fail
  refine (playBegun_any _).mono ?_
  rintro e w4 ⟨rfl, hb4⟩
  have B4 : Hid (Below w.heap.size w w4) := grow_trans gU.out hb4
  clear hb4
  go_wp2
  go_ret
  exact ⟨rfl, B4.out⟩
 ·go_simp
  clear hHeld
  refine hK.out _ _ (KS.out _ (grow_alloc (grow_drew (Below.refl _ _)) _)) (fun hHeld => ?_)
  clear hK K
  refine wpAnyH_ready (rs := [1]) (by kernel_rfl) (by simp) ?_
  refine AllReadyH.cons (o := { dst := some 21, op := .call { callee := .value (.func 29), args := #[.tmp 20, .const (.int .i64 4)], argTypes := #[3, 3] }, type := 3, pos := "two.go:194", after := #[{ on := 0, ground := .data }], guard := none }) rfl (fun K hK => ?_) AllReadyH.nil
  go_simp
  go_wp2_with (go_at_call 29; refine (choose_is n 4 _ hn (by decide) (by decide)).mono ?_; rintro e w3 ⟨rfl, hwe⟩; subst hwe)
  clear hHeld
  refine hK.out _ _ (KS.out _ (grow_alloc (grow_drew (Below.refl _ _)) _)) (fun hHeld => ?_)
  clear hK K
  refine tk (i := 2) (oi := { dst := some 22, op := .binOp .add 3 (.const (.int .i64 1)) (.tmp 21) 3, type := 3, pos := "two.go:194", after := #[{ on := 1, ground := .data }], guard := none }) (v := ?_) rfl (by kernel_rfl) (by kernel_rfl) (by kernel_rfl) (fun _ _ _ h => h) (by rfl) (by assumption) ?_ ?_; rotate_left; focus (intro w hSw; go_simp; first | done | with_reducible rfl)
  try simp only [Act.put, List.setIfInBounds_toArray, List.set_cons_zero, List.set_cons_succ]
  refine tk (i := 5) (oi := { dst := some 25, op := .build 24 #[(0, .tmp 22), (1, .tmp 24)], type := 24, pos := "two.go:194", after := #[{ on := 2, ground := .data }, { on := 4, ground := .data }], guard := none }) (v := ?_) rfl (by kernel_rfl) (by kernel_rfl) (by kernel_rfl) (fun _ _ _ h => h) (by rfl) (by assumption) ?_ ?_; rotate_left; focus (intro w hSw; go_simp; first | done | with_reducible rfl)
  try simp only [Act.put, List.setIfInBounds_toArray, List.set_cons_zero, List.set_cons_succ]
  refine wpAnyH_ready (rs := [7]) (by kernel_rfl) (by simp) ?_
  refine AllReadyH.cons (o := { dst := none, op := .store 24 (.tmp 9) (.tmp 25), type := 0, pos := "two.go:194", after := #[{ on := 6, ground := .data }, { on := 5, ground := .data }, { on := 1, ground := .chain }, { on := 0, ground := .phase }, { on := 1, ground := .phase }, { on := 2, ground := .phase }, { on := 3, ground := .phase }, { on := 4, ground := .phase }, { on := 5, ground := .phase }, { on := 6, ground := .phase }], guard := none }) rfl (fun K hK => ?_) AllReadyH.nil
  go_simp
  skip
  clear hHeld
  refine hK.out _ _ (KS.out _ (grow_alloc (grow_drew (Below.refl _ _)) _)) (fun hHeld => ?_)
  clear hK K
  refine wpAnyH_done (by kernel_rfl) ?_ _
  have OO : Hid (Below W.heap.size W (W.alloc (.cells #[.int .i64 (IntKind.i64.wrap (1 + ((chK n 4 : Nat) : Int))), .slice la l.length lc] 24)).drew) := grow_drew (grow_alloc (Below.refl _ _) _)
  have o0 : (W.alloc (.cells #[.int .i64 (IntKind.i64.wrap (1 + ((chK n 4 : Nat) : Int))), .slice la l.length lc] 24)).drew.cell? ⟨W.heap.size, 0, none⟩ = some (.int .i64 (IntKind.i64.wrap (1 + ((chK n 4 : Nat) : Int)))) := ext_cell (grow_drew (Below.refl _ _)) (at_new _ _ 24 _ 0 _ rfl rfl)
  have o1 : (W.alloc (.cells #[.int .i64 (IntKind.i64.wrap (1 + ((chK n 4 : Nat) : Int))), .slice la l.length lc] 24)).drew.cell? ⟨W.heap.size, 1, none⟩ = some (.slice la l.length lc) := ext_cell (grow_drew (Below.refl _ _)) (at_new _ _ 24 _ 1 _ rfl rfl)
  have p0 := ext_cell OO.out p0
  have p1 := ext_cell OO.out p1
  clear hHeld KS
  generalize (W.alloc (.cells #[.int .i64 (IntKind.i64.wrap (1 + ((chK n 4 : Nat) : Int))), .slice la l.length lc] 24)).drew = X at *
  rw [HM.out] at o0
  go_wp2_with fail
  refine (C1.out _ OO.out).mono ?_
  rintro e w1 ⟨q, rfl, hq, hb1⟩
  have gA : Below w1.heap.size w1 (w1.alloc (.cells #[.slice q.sa q.sn q.sc, .slice q.ra q.rn q.rc, .slice q.wa q.wn q.tc, .slice q.va q.vn q.vc] 29)) := grow_alloc (Below.refl _ _) _
  have gV : Hid (Below X.heap.size X (w1.alloc (.cells #[.slice q.sa q.sn q.sc, .slice q.ra q.rn q.rc, .slice q.wa q.wn q.tc, .slice q.va q.vn q.vc] 29))) := grow_trans hb1 gA
  have p0 := ext_cell gV.out p0
  have p1 := ext_cell gV.out p1
  have o0 := ext_cell gV.out o0
  have o1 := ext_cell gV.out o1
  have BV : Hid (Below W.heap.size W (w1.alloc (.cells #[.slice q.sa q.sn q.sc, .slice q.ra q.rn q.rc, .slice q.wa q.wn q.tc, .slice q.va q.vn q.vc] 29))) := grow_trans OO.out gV.out
  clear hb1 gA C1 hq OO
  go_upto_region 3 with fail
  generalize (w1.alloc (.cells #[.slice q.sa q.sn q.sc, .slice q.ra q.rn q.rc, .slice q.wa q.wn q.tc, .slice q.va q.vn q.vc] 29)) = V at *
  go_wp2_with fail
  refine (C2.out _ BV.out).mono ?_
  rintro e w2 ⟨y, rfl, hy, hb2⟩
  have gU : Hid (Below w.heap.size w (w2.alloc (.cells #[.slice y.sa y.sn y.sc, .slice y.ra y.rn y.rc, .slice y.wa y.wn y.tc, .slice y.va y.vn y.vc] 29))) := grow_trans gW.out (grow_trans BV.out (grow_trans hb2 (grow_alloc (Below.refl _ _) _)))
  clear hb2 C2 hy p0 p1 o0 o1
  go_upto_region 4 with fail
  generalize (w2.alloc (.cells #[.slice y.sa y.sn y.sc, .slice y.ra y.rn y.rc, .slice y.wa y.wn y.tc, .slice y.va y.vn y.vc] 29)) = U at *
  go_wp2_with fail
  refine (playBegun_any _).mono ?_
  rintro e w4 ⟨rfl, hb4⟩
  have B4 : Hid (Below w.heap.size w w4) := grow_trans gU.out hb4
  clear hb4
  go_wp2
  go_ret
  exact ⟨rfl, B4.out⟩
set_option maxHeartbeats 4000000 in
theorem playShards_ok (m n : Int) (w : World) (hl : IsTxs w la l) (hs : IsInts w sa s) (hp : IsInts w pa pk) (hpw : ∀ i, i < pk.length → (Lit.int .i64 (pk.getD i 0)).wf = true) (hpc : pk.length ≤ pc) (hn : (Lit.int .i64 n).wf = true) (hE : playE m l s pk = 0) :
  Calls Tryz.prog 12 #[.agg #[.int .i64 m, .slice la l.length lc], .slice sa s.length sc, .slice pa pk.length pc, .int .i64 n] w fun e w' => e = .returned (.bool true) ∧ Below w.heap.size w w' := by
 obtain ⟨W, hWe⟩ : ∃ W : World, W = (w.alloc (.cells #[.int .i64 m, .slice la l.length lc] 24)) := ⟨_, rfl⟩
 have gW : Hid (Below w.heap.size w W) := by subst hWe; exact grow_alloc (Below.refl _ _) _
 have p0 : W.cell? ⟨w.heap.size, 0, none⟩ = some (.int .i64 m) := by subst hWe; exact at_new _ _ 24 _ 0 _ rfl rfl
 have p1 : W.cell? ⟨w.heap.size, 1, none⟩ = some (.slice la l.length lc) := by subst hWe; exact at_new _ _ 24 _ 1 _ rfl rfl
 have hc4 := chK_lt n (show 0 < 4 by decide)
 obtain ⟨M, hM⟩ : ∃ M : Int, IntKind.i64.wrap (1 + ((chK n 4 : Nat) : Int)) = M := ⟨_, rfl⟩
 have C1 : Hid (∀ w', Below W.heap.size W w' → Calls Tryz.prog 30 #[.agg #[.int .i64 m, .slice la l.length lc], .slice sa s.length sc, .slice pa pk.length pc] w' fun e w'' => ∃ q : Q4, e = .returned (.tuple #[.agg #[.slice q.sa q.sn q.sc, .slice q.ra q.rn q.rc, .slice q.wa q.wn q.tc, .slice q.va q.vn q.vc], .int .i64 (playN m l s pk : Nat), .int .i64 (playE m l s pk)]) ∧ StaQ (playS m l s pk) q w'' ∧ Below w'.heap.size w' w'') := fun w' hb => (play_any la lc l sa sc s pa pc pk m w' ((hl.below gW.out).below hb) ((hs.below gW.out).below hb) ((hp.below gW.out).below hb) hpc hpw).mono (by rintro e w'' ⟨q, rfl, hq, hb⟩; exact ⟨q, rfl, hq.sta, hb⟩)
 have C2 : Hid (∀ w', Below W.heap.size W w' → Calls Tryz.prog 30 #[.agg #[.int .i64 M, .slice la l.length lc], .slice sa s.length sc, .slice pa pk.length pc] w' fun e w'' => ∃ q : Q4, e = .returned (.tuple #[.agg #[.slice q.sa q.sn q.sc, .slice q.ra q.rn q.rc, .slice q.wa q.wn q.tc, .slice q.va q.vn q.vc], .int .i64 (playN M l s pk : Nat), .int .i64 (playE M l s pk)]) ∧ StaQ (playS M l s pk) q w'' ∧ Below w'.heap.size w' w'') := fun w' hb => (play_any la lc l sa sc s pa pc pk M w' ((hl.below gW.out).below hb) ((hs.below gW.out).below hb) ((hp.below gW.out).below hb) hpc hpw).mono (by rintro e w'' ⟨q, rfl, hq, hb⟩; exact ⟨q, rfl, hq.sta, hb⟩)
 have HM : Hid (IntKind.i64.wrap (1 + ((chK n 4 : Nat) : Int)) = M) := hM
 have hM2 : IntKind.i64.wrap (1 + ((chK n 4 : Nat) : Int)) = 1 + ((chK n 4 : Nat) : Int) := by rw [IntKind.wrap_i64]; omega
 rw [hM2] at hM
 have hE2 : playE M l s pk = 0 := playE_other (by omega) (by omega) hE
 clear hM2
 have PD : Hid (Played m l s pk) := played hE
 have PD2 : Hid (Played M l s pk) := played hE2
 have HL : Hid (IsTxs W la l) := hl.below gW.out
 rw [hE] at C1
 rw [hE2] at C2
 clear hl hs hp hpw hpc hM hE hE2
 generalize playN m l s pk = N1 at *
 generalize playN M l s pk = N2 at *
 have HWe : Hid (W = _) := hWe
 clear hWe
 go_enter Tryz.func12, Tryz.ntmps12
 go_upto_region 1 with fail
 rw [← HWe.out]
 clear HWe
 have KS : Hid (∀ w', Below W.heap.size W w' → w'.cell? ⟨w.heap.size, 1, none⟩ = some (.slice la l.length lc)) := fun w' hb => ext_cell hb p1
 refine wp_region_held_drew (S := fun w' => w'.cell? ⟨w.heap.size, 1, none⟩ = some (.slice la l.length lc)) (by kernel_rfl) ?_ (fun hHeld => ?_)
 ·exact KS.out _ (grow_drew (Below.refl _ _))
 refine tk (i := 0) (oi := { dst := some 20, op := .move (.tmp 3), type := 3, pos := "two.go:194", after := #[], guard := none }) (v := ?_) rfl (by kernel_rfl) (by kernel_rfl) (by kernel_rfl) (fun _ _ _ h => h) (by rfl) (by assumption) ?_ ?_; rotate_left; focus (intro w hSw; go_simp; first | done | with_reducible rfl)
 try simp only [Act.put, List.setIfInBounds_toArray, List.set_cons_zero, List.set_cons_succ]
 refine tk (i := 3) (oi := { dst := some 23, op := .fieldAddr 24 (.tmp 4) 1, type := 0, pos := "two.go:194", after := #[], guard := none }) (v := ?_) rfl (by kernel_rfl) (by kernel_rfl) (by kernel_rfl) (fun _ _ _ h => h) (by rfl) (by assumption) ?_ ?_; rotate_left; focus (intro w hSw; go_simp; first | done | with_reducible rfl)
 try simp only [Act.put, List.setIfInBounds_toArray, List.set_cons_zero, List.set_cons_succ]
 refine tk (i := 4) (oi := { dst := some 24, op := .load 22 (.tmp 23), type := 22, pos := "two.go:194", after := #[{ on := 3, ground := .data }], guard := none }) (v := ?_) rfl (by kernel_rfl) (by kernel_rfl) (by kernel_rfl) (fun _ _ _ h => h) (by rfl) (by assumption) ?_ ?_; rotate_left; focus (intro w hSw; go_simp; first | done | with_reducible rfl)
 try simp only [Act.put, List.setIfInBounds_toArray, List.set_cons_zero, List.set_cons_succ]
 refine wpAnyH_ready (rs := [1, 6]) (by kernel_rfl) (by simp) ?_
 refine AllReadyH.cons (o := { dst := some 21, op := .call { callee := .value (.func 29), args := #[.tmp 20, .const (.int .i64 4)], argTypes := #[3, 3] }, type := 3, pos := "two.go:194", after := #[{ on := 0, ground := .data }], guard := none }) rfl (fun K hK => ?_) (AllReadyH.cons (o := { dst := some 9, op := .alloc 24, type := 0, pos := "two.go:194", after := #[], guard := none }) rfl (fun K hK => ?_) AllReadyH.nil)
 ·go_simp
  go_wp2_with (go_at_call 29; refine (choose_is n 4 _ hn (by decide) (by decide)).mono ?_; rintro e w3 ⟨rfl, hwe⟩; subst hwe)
  clear hHeld
  refine hK.out _ _ (KS.out _ (grow_drew (Below.refl _ _))) (fun hHeld => ?_)
  clear hK K
  refine tk (i := 2) (oi := { dst := some 22, op := .binOp .add 3 (.const (.int .i64 1)) (.tmp 21) 3, type := 3, pos := "two.go:194", after := #[{ on := 1, ground := .data }], guard := none }) (v := ?_) rfl (by kernel_rfl) (by kernel_rfl) (by kernel_rfl) (fun _ _ _ h => h) (by rfl) (by assumption) ?_ ?_; rotate_left; focus (intro w hSw; go_simp; first | done | with_reducible rfl)
  try simp only [Act.put, List.setIfInBounds_toArray, List.set_cons_zero, List.set_cons_succ]
  refine tk (i := 5) (oi := { dst := some 25, op := .build 24 #[(0, .tmp 22), (1, .tmp 24)], type := 24, pos := "two.go:194", after := #[{ on := 2, ground := .data }, { on := 4, ground := .data }], guard := none }) (v := ?_) rfl (by kernel_rfl) (by kernel_rfl) (by kernel_rfl) (fun _ _ _ h => h) (by rfl) (by assumption) ?_ ?_; rotate_left; focus (intro w hSw; go_simp; first | done | with_reducible rfl)
  try simp only [Act.put, List.setIfInBounds_toArray, List.set_cons_zero, List.set_cons_succ]
  refine wpAnyH_ready (rs := [6]) (by kernel_rfl) (by simp) ?_
  refine AllReadyH.cons (o := { dst := some 9, op := .alloc 24, type := 0, pos := "two.go:194", after := #[], guard := none }) rfl (fun K hK => ?_) AllReadyH.nil
  go_simp
  skip
  clear hHeld
  refine hK.out _ _ (KS.out _ (grow_alloc (grow_drew (Below.refl _ _)) _)) (fun hHeld => ?_)
  clear hK K
  refine wpAnyH_ready (rs := [7]) (by kernel_rfl) (by simp) ?_
  refine AllReadyH.cons (o := { dst := none, op := .store 24 (.tmp 9) (.tmp 25), type := 0, pos := "two.go:194", after := #[{ on := 6, ground := .data }, { on := 5, ground := .data }, { on := 1, ground := .chain }, { on := 0, ground := .phase }, { on := 1, ground := .phase }, { on := 2, ground := .phase }, { on := 3, ground := .phase }, { on := 4, ground := .phase }, { on := 5, ground := .phase }, { on := 6, ground := .phase }], guard := none }) rfl (fun K hK => ?_) AllReadyH.nil
  go_simp
  skip
  clear hHeld
  refine hK.out _ _ (KS.out _ (grow_alloc (grow_drew (Below.refl _ _)) _)) (fun hHeld => ?_)
  clear hK K
  refine wpAnyH_done (by kernel_rfl) ?_ _
  have OO : Hid (Below W.heap.size W (W.alloc (.cells #[.int .i64 (IntKind.i64.wrap (1 + ((chK n 4 : Nat) : Int))), .slice la l.length lc] 24)).drew) := grow_drew (grow_alloc (Below.refl _ _) _)
  have o0 : (W.alloc (.cells #[.int .i64 (IntKind.i64.wrap (1 + ((chK n 4 : Nat) : Int))), .slice la l.length lc] 24)).drew.cell? ⟨W.heap.size, 0, none⟩ = some (.int .i64 (IntKind.i64.wrap (1 + ((chK n 4 : Nat) : Int)))) := ext_cell (grow_drew (Below.refl _ _)) (at_new _ _ 24 _ 0 _ rfl rfl)
  have o1 : (W.alloc (.cells #[.int .i64 (IntKind.i64.wrap (1 + ((chK n 4 : Nat) : Int))), .slice la l.length lc] 24)).drew.cell? ⟨W.heap.size, 1, none⟩ = some (.slice la l.length lc) := ext_cell (grow_drew (Below.refl _ _)) (at_new _ _ 24 _ 1 _ rfl rfl)
  have p0 := ext_cell OO.out p0
  have p1 := ext_cell OO.out p1
  clear hHeld KS
  generalize (W.alloc (.cells #[.int .i64 (IntKind.i64.wrap (1 + ((chK n 4 : Nat) : Int))), .slice la l.length lc] 24)).drew = X at *
  rw [HM.out] at o0
  go_wp2_with fail
  refine (C1.out _ OO.out).mono ?_
  rintro e w1 ⟨q, rfl, hq, hb1⟩
  have gA : Below w1.heap.size w1 (w1.alloc (.cells #[.slice q.sa q.sn q.sc, .slice q.ra q.rn q.rc, .slice q.wa q.wn q.tc, .slice q.va q.vn q.vc] 29)) := grow_alloc (Below.refl _ _) _
  have gV : Hid (Below X.heap.size X (w1.alloc (.cells #[.slice q.sa q.sn q.sc, .slice q.ra q.rn q.rc, .slice q.wa q.wn q.tc, .slice q.va q.vn q.vc] 29))) := grow_trans hb1 gA
  have p0 := ext_cell gV.out p0
  have p1 := ext_cell gV.out p1
  have o0 := ext_cell gV.out o0
  have o1 := ext_cell gV.out o1
  have BV : Hid (Below W.heap.size W (w1.alloc (.cells #[.slice q.sa q.sn q.sc, .slice q.ra q.rn q.rc, .slice q.wa q.wn q.tc, .slice q.va q.vn q.vc] 29))) := grow_trans OO.out gV.out
  have HQ : Hid (StaQ (playS m l s pk) q (w1.alloc (.cells #[.slice q.sa q.sn q.sc, .slice q.ra q.rn q.rc, .slice q.wa q.wn q.tc, .slice q.va q.vn q.vc] 29))) := hq.below gA
  have k0 : (w1.alloc (.cells #[.slice q.sa q.sn q.sc, .slice q.ra q.rn q.rc, .slice q.wa q.wn q.tc, .slice q.va q.vn q.vc] 29)).cell? ⟨w1.heap.size, 0, none⟩ = some (.slice q.sa q.sn q.sc) := at_new _ _ 29 _ 0 _ rfl rfl
  have k1 : (w1.alloc (.cells #[.slice q.sa q.sn q.sc, .slice q.ra q.rn q.rc, .slice q.wa q.wn q.tc, .slice q.va q.vn q.vc] 29)).cell? ⟨w1.heap.size, 1, none⟩ = some (.slice q.ra q.rn q.rc) := at_new _ _ 29 _ 1 _ rfl rfl
  have k2 : (w1.alloc (.cells #[.slice q.sa q.sn q.sc, .slice q.ra q.rn q.rc, .slice q.wa q.wn q.tc, .slice q.va q.vn q.vc] 29)).cell? ⟨w1.heap.size, 2, none⟩ = some (.slice q.wa q.wn q.tc) := at_new _ _ 29 _ 2 _ rfl rfl
  have k3 : (w1.alloc (.cells #[.slice q.sa q.sn q.sc, .slice q.ra q.rn q.rc, .slice q.wa q.wn q.tc, .slice q.va q.vn q.vc] 29)).cell? ⟨w1.heap.size, 3, none⟩ = some (.slice q.va q.vn q.vc) := at_new _ _ 29 _ 3 _ rfl rfl
  clear hb1 gA C1 hq OO
  go_upto_region 3 with fail
  generalize (w1.alloc (.cells #[.slice q.sa q.sn q.sc, .slice q.ra q.rn q.rc, .slice q.wa q.wn q.tc, .slice q.va q.vn q.vc] 29)) = V at *
  generalize w1.heap.size = qb at *
  go_wp2_with fail
  refine (C2.out _ BV.out).mono ?_
  rintro e w2 ⟨y, rfl, hy, hb2⟩
  have gA : Below w2.heap.size w2 (w2.alloc (.cells #[.slice y.sa y.sn y.sc, .slice y.ra y.rn y.rc, .slice y.wa y.wn y.tc, .slice y.va y.vn y.vc] 29)) := grow_alloc (Below.refl _ _) _
  have gU : Below V.heap.size V (w2.alloc (.cells #[.slice y.sa y.sn y.sc, .slice y.ra y.rn y.rc, .slice y.wa y.wn y.tc, .slice y.va y.vn y.vc] 29)) := grow_trans hb2 gA
  have BU : Hid (Below W.heap.size W (w2.alloc (.cells #[.slice y.sa y.sn y.sc, .slice y.ra y.rn y.rc, .slice y.wa y.wn y.tc, .slice y.va y.vn y.vc] 29))) := grow_trans BV.out gU
  have HY : Hid (StaQ (playS M l s pk) y (w2.alloc (.cells #[.slice y.sa y.sn y.sc, .slice y.ra y.rn y.rc, .slice y.wa y.wn y.tc, .slice y.va y.vn y.vc] 29))) := hy.below gA
  have HQ : Hid (StaQ (playS m l s pk) q (w2.alloc (.cells #[.slice y.sa y.sn y.sc, .slice y.ra y.rn y.rc, .slice y.wa y.wn y.tc, .slice y.va y.vn y.vc] 29))) := HQ.out.below gU
  have p0 := ext_cell gU p0
  have p1 := ext_cell gU p1
  have o0 := ext_cell gU o0
  have o1 := ext_cell gU o1
  have k0 := ext_cell gU k0
  have k1 := ext_cell gU k1
  have k2 := ext_cell gU k2
  have k3 := ext_cell gU k3
  have j0 : (w2.alloc (.cells #[.slice y.sa y.sn y.sc, .slice y.ra y.rn y.rc, .slice y.wa y.wn y.tc, .slice y.va y.vn y.vc] 29)).cell? ⟨w2.heap.size, 0, none⟩ = some (.slice y.sa y.sn y.sc) := at_new _ _ 29 _ 0 _ rfl rfl
  have j1 : (w2.alloc (.cells #[.slice y.sa y.sn y.sc, .slice y.ra y.rn y.rc, .slice y.wa y.wn y.tc, .slice y.va y.vn y.vc] 29)).cell? ⟨w2.heap.size, 1, none⟩ = some (.slice y.ra y.rn y.rc) := at_new _ _ 29 _ 1 _ rfl rfl
  have j2 : (w2.alloc (.cells #[.slice y.sa y.sn y.sc, .slice y.ra y.rn y.rc, .slice y.wa y.wn y.tc, .slice y.va y.vn y.vc] 29)).cell? ⟨w2.heap.size, 2, none⟩ = some (.slice y.wa y.wn y.tc) := at_new _ _ 29 _ 2 _ rfl rfl
  have j3 : (w2.alloc (.cells #[.slice y.sa y.sn y.sc, .slice y.ra y.rn y.rc, .slice y.wa y.wn y.tc, .slice y.va y.vn y.vc] 29)).cell? ⟨w2.heap.size, 3, none⟩ = some (.slice y.va y.vn y.vc) := at_new _ _ 29 _ 3 _ rfl rfl
  clear hb2 gA gU C2 hy BV gV
  go_upto_region 4 with fail
  generalize (w2.alloc (.cells #[.slice y.sa y.sn y.sc, .slice y.ra y.rn y.rc, .slice y.wa y.wn y.tc, .slice y.va y.vn y.vc] 29)) = U at *
  generalize w2.heap.size = yb at *
  have HLU : Hid (IsTxs U la l) := HL.out.below BU.out
  go_wp2_with fail
  refine (results_any la lc l q (playS m l s pk) m _ HLU.out HQ.out).mono ?_
  rintro e w5 ⟨xa, xc, rfl, hx, hb5⟩
  rw [PD.out.re, PD.out.rl]
  rw [PD.out.rl] at hx
  have o0 := ext_cell hb5 o0
  have o1 := ext_cell hb5 o1
  have k0 := ext_cell hb5 k0
  have j0 := ext_cell hb5 j0
  have j1 := ext_cell hb5 j1
  have j2 := ext_cell hb5 j2
  have j3 := ext_cell hb5 j3
  go_wp2_with fail
  refine (results_any la lc l y (playS M l s pk) M _ (HLU.out.below hb5) (HY.out.below hb5)).mono ?_
  rintro e w6 ⟨za, zc, rfl, hz, hb6⟩
  rw [PD2.out.re, PD2.out.rl]
  rw [PD2.out.rl] at hz
  have k0 := ext_cell hb6 k0
  have j0 := ext_cell hb6 j0
  have EQ : Hid (q.sn = (serEnd s l).length) := HQ.out.1.trans (by rw [PD.out.st])
  have EY : Hid (y.sn = (serEnd s l).length) := HY.out.1.trans (by rw [PD2.out.st])
  have HX : Hid (IsRes w6 xa (serRes s l)) := hx.below hb6
  have HZ : Hid (IsRes w6 za (serRes s l)) := hz
  have HI : Hid (IsInts w6 q.sa (serEnd s l)) := by
   have h := HQ.out.2.2.2.2.st.below (grow_trans hb5 hb6)
   rw [PD.out.st] at h
   exact h
  have HJ : Hid (IsInts w6 y.sa (serEnd s l)) := by
   have h := HY.out.2.2.2.2.st.below (grow_trans hb5 hb6)
   rw [PD2.out.st] at h
   exact h
  have B6 : Hid (Below w.heap.size w w6) := grow_trans gW.out (grow_trans BU.out (grow_trans hb5 hb6))
  have len1 : (serEnd s l).length = s.length := serEnd_len _ _
  have len2 : (serRes s l).length = l.length := serRes_len _ _
  have h8 := PD.out.s8
  have hl8 := PD.out.len
  have FEW : Hid (∀ r ∈ serRes s l, r.2.length ≤ 100) := PD.out.few
  have hm : (serEnd s l).length ≤ maxLen := by unfold maxLen; omega
  have hR : (serRes s l).length ≤ 100 := by omega
  rw [EQ.out] at k0
  rw [EY.out] at j0
  clear hx hz hb5 hb6 p0 p1 o0 o1 k1 k2 k3 j1 j2 j3 EQ EY PD PD2 HQ HY HL HLU BU gW len1 len2 h8 hl8
  generalize serEnd s l = E at *
  generalize serRes s l = R at *
  go_wp2_with fail
  refine (playBegun_any _).mono ?_
  rintro e w7 ⟨rfl, hb7⟩
  have k0 := ext_cell hb7 k0
  have j0 := ext_cell hb7 j0
  go_wp2_with fail
  refine (sameInts_any E E q.sa y.sa q.sc y.sc _ hm (HI.out.below hb7) (HJ.out.below hb7)).mono ?_
  rintro e w8 ⟨rfl, hb8⟩
  rw [decide_eq_true rfl]
  go_wp2_with fail
  refine (sameResults_eq R xa za xc zc _ hR FEW.out (HX.out.below (grow_trans hb7 hb8)) (HZ.out.below (grow_trans hb7 hb8))).mono ?_
  rintro e w9 ⟨rfl, hb9⟩
  go_wp2
  go_ret
  exact ⟨rfl, grow_trans B6.out (grow_trans hb7 (grow_trans hb8 hb9))⟩
 ·go_simp
  clear hHeld
  refine hK.out _ _ (KS.out _ (grow_alloc (grow_drew (Below.refl _ _)) _)) (fun hHeld => ?_)
  clear hK K
  refine wpAnyH_ready (rs := [1]) (by kernel_rfl) (by simp) ?_
  refine AllReadyH.cons (o := { dst := some 21, op := .call { callee := .value (.func 29), args := #[.tmp 20, .const (.int .i64 4)], argTypes := #[3, 3] }, type := 3, pos := "two.go:194", after := #[{ on := 0, ground := .data }], guard := none }) rfl (fun K hK => ?_) AllReadyH.nil
  go_simp
  go_wp2_with (go_at_call 29; refine (choose_is n 4 _ hn (by decide) (by decide)).mono ?_; rintro e w3 ⟨rfl, hwe⟩; subst hwe)
  clear hHeld
  refine hK.out _ _ (KS.out _ (grow_alloc (grow_drew (Below.refl _ _)) _)) (fun hHeld => ?_)
  clear hK K
  refine tk (i := 2) (oi := { dst := some 22, op := .binOp .add 3 (.const (.int .i64 1)) (.tmp 21) 3, type := 3, pos := "two.go:194", after := #[{ on := 1, ground := .data }], guard := none }) (v := ?_) rfl (by kernel_rfl) (by kernel_rfl) (by kernel_rfl) (fun _ _ _ h => h) (by rfl) (by assumption) ?_ ?_; rotate_left; focus (intro w hSw; go_simp; first | done | with_reducible rfl)
  try simp only [Act.put, List.setIfInBounds_toArray, List.set_cons_zero, List.set_cons_succ]
  refine tk (i := 5) (oi := { dst := some 25, op := .build 24 #[(0, .tmp 22), (1, .tmp 24)], type := 24, pos := "two.go:194", after := #[{ on := 2, ground := .data }, { on := 4, ground := .data }], guard := none }) (v := ?_) rfl (by kernel_rfl) (by kernel_rfl) (by kernel_rfl) (fun _ _ _ h => h) (by rfl) (by assumption) ?_ ?_; rotate_left; focus (intro w hSw; go_simp; first | done | with_reducible rfl)
  try simp only [Act.put, List.setIfInBounds_toArray, List.set_cons_zero, List.set_cons_succ]
  refine wpAnyH_ready (rs := [7]) (by kernel_rfl) (by simp) ?_
  refine AllReadyH.cons (o := { dst := none, op := .store 24 (.tmp 9) (.tmp 25), type := 0, pos := "two.go:194", after := #[{ on := 6, ground := .data }, { on := 5, ground := .data }, { on := 1, ground := .chain }, { on := 0, ground := .phase }, { on := 1, ground := .phase }, { on := 2, ground := .phase }, { on := 3, ground := .phase }, { on := 4, ground := .phase }, { on := 5, ground := .phase }, { on := 6, ground := .phase }], guard := none }) rfl (fun K hK => ?_) AllReadyH.nil
  go_simp
  skip
  clear hHeld
  refine hK.out _ _ (KS.out _ (grow_alloc (grow_drew (Below.refl _ _)) _)) (fun hHeld => ?_)
  clear hK K
  refine wpAnyH_done (by kernel_rfl) ?_ _
  have OO : Hid (Below W.heap.size W (W.alloc (.cells #[.int .i64 (IntKind.i64.wrap (1 + ((chK n 4 : Nat) : Int))), .slice la l.length lc] 24)).drew) := grow_drew (grow_alloc (Below.refl _ _) _)
  have o0 : (W.alloc (.cells #[.int .i64 (IntKind.i64.wrap (1 + ((chK n 4 : Nat) : Int))), .slice la l.length lc] 24)).drew.cell? ⟨W.heap.size, 0, none⟩ = some (.int .i64 (IntKind.i64.wrap (1 + ((chK n 4 : Nat) : Int)))) := ext_cell (grow_drew (Below.refl _ _)) (at_new _ _ 24 _ 0 _ rfl rfl)
  have o1 : (W.alloc (.cells #[.int .i64 (IntKind.i64.wrap (1 + ((chK n 4 : Nat) : Int))), .slice la l.length lc] 24)).drew.cell? ⟨W.heap.size, 1, none⟩ = some (.slice la l.length lc) := ext_cell (grow_drew (Below.refl _ _)) (at_new _ _ 24 _ 1 _ rfl rfl)
  have p0 := ext_cell OO.out p0
  have p1 := ext_cell OO.out p1
  clear hHeld KS
  generalize (W.alloc (.cells #[.int .i64 (IntKind.i64.wrap (1 + ((chK n 4 : Nat) : Int))), .slice la l.length lc] 24)).drew = X at *
  rw [HM.out] at o0
  go_wp2_with fail
  refine (C1.out _ OO.out).mono ?_
  rintro e w1 ⟨q, rfl, hq, hb1⟩
  have gA : Below w1.heap.size w1 (w1.alloc (.cells #[.slice q.sa q.sn q.sc, .slice q.ra q.rn q.rc, .slice q.wa q.wn q.tc, .slice q.va q.vn q.vc] 29)) := grow_alloc (Below.refl _ _) _
  have gV : Hid (Below X.heap.size X (w1.alloc (.cells #[.slice q.sa q.sn q.sc, .slice q.ra q.rn q.rc, .slice q.wa q.wn q.tc, .slice q.va q.vn q.vc] 29))) := grow_trans hb1 gA
  have p0 := ext_cell gV.out p0
  have p1 := ext_cell gV.out p1
  have o0 := ext_cell gV.out o0
  have o1 := ext_cell gV.out o1
  have BV : Hid (Below W.heap.size W (w1.alloc (.cells #[.slice q.sa q.sn q.sc, .slice q.ra q.rn q.rc, .slice q.wa q.wn q.tc, .slice q.va q.vn q.vc] 29))) := grow_trans OO.out gV.out
  have HQ : Hid (StaQ (playS m l s pk) q (w1.alloc (.cells #[.slice q.sa q.sn q.sc, .slice q.ra q.rn q.rc, .slice q.wa q.wn q.tc, .slice q.va q.vn q.vc] 29))) := hq.below gA
  have k0 : (w1.alloc (.cells #[.slice q.sa q.sn q.sc, .slice q.ra q.rn q.rc, .slice q.wa q.wn q.tc, .slice q.va q.vn q.vc] 29)).cell? ⟨w1.heap.size, 0, none⟩ = some (.slice q.sa q.sn q.sc) := at_new _ _ 29 _ 0 _ rfl rfl
  have k1 : (w1.alloc (.cells #[.slice q.sa q.sn q.sc, .slice q.ra q.rn q.rc, .slice q.wa q.wn q.tc, .slice q.va q.vn q.vc] 29)).cell? ⟨w1.heap.size, 1, none⟩ = some (.slice q.ra q.rn q.rc) := at_new _ _ 29 _ 1 _ rfl rfl
  have k2 : (w1.alloc (.cells #[.slice q.sa q.sn q.sc, .slice q.ra q.rn q.rc, .slice q.wa q.wn q.tc, .slice q.va q.vn q.vc] 29)).cell? ⟨w1.heap.size, 2, none⟩ = some (.slice q.wa q.wn q.tc) := at_new _ _ 29 _ 2 _ rfl rfl
  have k3 : (w1.alloc (.cells #[.slice q.sa q.sn q.sc, .slice q.ra q.rn q.rc, .slice q.wa q.wn q.tc, .slice q.va q.vn q.vc] 29)).cell? ⟨w1.heap.size, 3, none⟩ = some (.slice q.va q.vn q.vc) := at_new _ _ 29 _ 3 _ rfl rfl
  clear hb1 gA C1 hq OO
  go_upto_region 3 with fail
  generalize (w1.alloc (.cells #[.slice q.sa q.sn q.sc, .slice q.ra q.rn q.rc, .slice q.wa q.wn q.tc, .slice q.va q.vn q.vc] 29)) = V at *
  generalize w1.heap.size = qb at *
  go_wp2_with fail
  refine (C2.out _ BV.out).mono ?_
  rintro e w2 ⟨y, rfl, hy, hb2⟩
  have gA : Below w2.heap.size w2 (w2.alloc (.cells #[.slice y.sa y.sn y.sc, .slice y.ra y.rn y.rc, .slice y.wa y.wn y.tc, .slice y.va y.vn y.vc] 29)) := grow_alloc (Below.refl _ _) _
  have gU : Below V.heap.size V (w2.alloc (.cells #[.slice y.sa y.sn y.sc, .slice y.ra y.rn y.rc, .slice y.wa y.wn y.tc, .slice y.va y.vn y.vc] 29)) := grow_trans hb2 gA
  have BU : Hid (Below W.heap.size W (w2.alloc (.cells #[.slice y.sa y.sn y.sc, .slice y.ra y.rn y.rc, .slice y.wa y.wn y.tc, .slice y.va y.vn y.vc] 29))) := grow_trans BV.out gU
  have HY : Hid (StaQ (playS M l s pk) y (w2.alloc (.cells #[.slice y.sa y.sn y.sc, .slice y.ra y.rn y.rc, .slice y.wa y.wn y.tc, .slice y.va y.vn y.vc] 29))) := hy.below gA
  have HQ : Hid (StaQ (playS m l s pk) q (w2.alloc (.cells #[.slice y.sa y.sn y.sc, .slice y.ra y.rn y.rc, .slice y.wa y.wn y.tc, .slice y.va y.vn y.vc] 29))) := HQ.out.below gU
  have p0 := ext_cell gU p0
  have p1 := ext_cell gU p1
  have o0 := ext_cell gU o0
  have o1 := ext_cell gU o1
  have k0 := ext_cell gU k0
  have k1 := ext_cell gU k1
  have k2 := ext_cell gU k2
  have k3 := ext_cell gU k3
  have j0 : (w2.alloc (.cells #[.slice y.sa y.sn y.sc, .slice y.ra y.rn y.rc, .slice y.wa y.wn y.tc, .slice y.va y.vn y.vc] 29)).cell? ⟨w2.heap.size, 0, none⟩ = some (.slice y.sa y.sn y.sc) := at_new _ _ 29 _ 0 _ rfl rfl
  have j1 : (w2.alloc (.cells #[.slice y.sa y.sn y.sc, .slice y.ra y.rn y.rc, .slice y.wa y.wn y.tc, .slice y.va y.vn y.vc] 29)).cell? ⟨w2.heap.size, 1, none⟩ = some (.slice y.ra y.rn y.rc) := at_new _ _ 29 _ 1 _ rfl rfl
  have j2 : (w2.alloc (.cells #[.slice y.sa y.sn y.sc, .slice y.ra y.rn y.rc, .slice y.wa y.wn y.tc, .slice y.va y.vn y.vc] 29)).cell? ⟨w2.heap.size, 2, none⟩ = some (.slice y.wa y.wn y.tc) := at_new _ _ 29 _ 2 _ rfl rfl
  have j3 : (w2.alloc (.cells #[.slice y.sa y.sn y.sc, .slice y.ra y.rn y.rc, .slice y.wa y.wn y.tc, .slice y.va y.vn y.vc] 29)).cell? ⟨w2.heap.size, 3, none⟩ = some (.slice y.va y.vn y.vc) := at_new _ _ 29 _ 3 _ rfl rfl
  clear hb2 gA gU C2 hy BV gV
  go_upto_region 4 with fail
  generalize (w2.alloc (.cells #[.slice y.sa y.sn y.sc, .slice y.ra y.rn y.rc, .slice y.wa y.wn y.tc, .slice y.va y.vn y.vc] 29)) = U at *
  generalize w2.heap.size = yb at *
  have HLU : Hid (IsTxs U la l) := HL.out.below BU.out
  go_wp2_with fail
  refine (results_any la lc l q (playS m l s pk) m _ HLU.out HQ.out).mono ?_
  rintro e w5 ⟨xa, xc, rfl, hx, hb5⟩
  rw [PD.out.re, PD.out.rl]
  rw [PD.out.rl] at hx
  have o0 := ext_cell hb5 o0
  have o1 := ext_cell hb5 o1
  have k0 := ext_cell hb5 k0
  have j0 := ext_cell hb5 j0
  have j1 := ext_cell hb5 j1
  have j2 := ext_cell hb5 j2
  have j3 := ext_cell hb5 j3
  go_wp2_with fail
  refine (results_any la lc l y (playS M l s pk) M _ (HLU.out.below hb5) (HY.out.below hb5)).mono ?_
  rintro e w6 ⟨za, zc, rfl, hz, hb6⟩
  rw [PD2.out.re, PD2.out.rl]
  rw [PD2.out.rl] at hz
  have k0 := ext_cell hb6 k0
  have j0 := ext_cell hb6 j0
  have EQ : Hid (q.sn = (serEnd s l).length) := HQ.out.1.trans (by rw [PD.out.st])
  have EY : Hid (y.sn = (serEnd s l).length) := HY.out.1.trans (by rw [PD2.out.st])
  have HX : Hid (IsRes w6 xa (serRes s l)) := hx.below hb6
  have HZ : Hid (IsRes w6 za (serRes s l)) := hz
  have HI : Hid (IsInts w6 q.sa (serEnd s l)) := by
   have h := HQ.out.2.2.2.2.st.below (grow_trans hb5 hb6)
   rw [PD.out.st] at h
   exact h
  have HJ : Hid (IsInts w6 y.sa (serEnd s l)) := by
   have h := HY.out.2.2.2.2.st.below (grow_trans hb5 hb6)
   rw [PD2.out.st] at h
   exact h
  have B6 : Hid (Below w.heap.size w w6) := grow_trans gW.out (grow_trans BU.out (grow_trans hb5 hb6))
  have len1 : (serEnd s l).length = s.length := serEnd_len _ _
  have len2 : (serRes s l).length = l.length := serRes_len _ _
  have h8 := PD.out.s8
  have hl8 := PD.out.len
  have FEW : Hid (∀ r ∈ serRes s l, r.2.length ≤ 100) := PD.out.few
  have hm : (serEnd s l).length ≤ maxLen := by unfold maxLen; omega
  have hR : (serRes s l).length ≤ 100 := by omega
  rw [EQ.out] at k0
  rw [EY.out] at j0
  clear hx hz hb5 hb6 p0 p1 o0 o1 k1 k2 k3 j1 j2 j3 EQ EY PD PD2 HQ HY HL HLU BU gW len1 len2 h8 hl8
  generalize serEnd s l = E at *
  generalize serRes s l = R at *
  go_wp2_with fail
  refine (playBegun_any _).mono ?_
  rintro e w7 ⟨rfl, hb7⟩
  have k0 := ext_cell hb7 k0
  have j0 := ext_cell hb7 j0
  go_wp2_with fail
  refine (sameInts_any E E q.sa y.sa q.sc y.sc _ hm (HI.out.below hb7) (HJ.out.below hb7)).mono ?_
  rintro e w8 ⟨rfl, hb8⟩
  rw [decide_eq_true rfl]
  go_wp2_with fail
  refine (sameResults_eq R xa za xc zc _ hR FEW.out (HX.out.below (grow_trans hb7 hb8)) (HZ.out.below (grow_trans hb7 hb8))).mono ?_
  rintro e w9 ⟨rfl, hb9⟩
  go_wp2
  go_ret
  exact ⟨rfl, grow_trans B6.out (grow_trans hb7 (grow_trans hb8 hb9))⟩
theorem playShards_walk (m n : Int) (w : World) (hl : IsTxs w la l) (hs : IsInts w sa s) (hp : IsInts w pa pk) (hpw : ∀ i, i < pk.length → (Lit.int .i64 (pk.getD i 0)).wf = true) (hpc : pk.length ≤ pc) (hn : (Lit.int .i64 n).wf = true) :
  Calls Tryz.prog 12 #[.agg #[.int .i64 m, .slice la l.length lc], .slice sa s.length sc, .slice pa pk.length pc, .int .i64 n] w fun e w' => e = .returned (.bool true) ∧ Below w.heap.size w w' := by
 by_cases hE : playE m l s pk = 0
 ·exact playShards_ok la lc l sa sc s pa pc pk m n w hl hs hp hpw hpc hn hE
 ·exact playShards_bad la lc l sa sc s pa pc pk m n w hl hs hp hpw hpc hn hE
end Go.Proofs.YtebjkmknhpgemaaGreat
