/-
  
  Conditions: those that each theorem states.
-/
import Derived.Test.YtebjkmknhpgemaaGreatUDocC
set_option maxRecDepth 100000
namespace Go.Proofs.YtebjkmknhpgemaaGreat
open Go.RowKit
variable (la : Option Addr) (lc : Nat) (l : List TxA) (sa ra wa va : Option Addr) (sc rc tc vc : Nat) (S : SA)
set_option maxHeartbeats 20000000 in
theorem docMay_write (sh n k : Nat) (w : World) (hl : IsTxs w la l) (hs : Sta w sa ra wa va S) (hp : ∀ a, a < l.length → pnE sh l a = 0) (hF : Form sh l S) (hn : n < l.length) (h8 : l.length ≤ 8) (hk : k < sh) (h4 : sh ≤ 4) :
  Calls Tryz.prog 65 #[.agg #[.int .i64 (sh : Int), .slice la l.length lc], .agg #[.slice sa S.st.length sc, .slice ra S.rd.length rc, .slice wa S.wr.length tc, .slice va S.vs.length vc], .agg #[.int .i64 2, .int .i64 n, .int .i64 k]] w fun e w' => e = .returned (.bool (dP sh l S 2 n k)) ∧ Below w.heap.size w w' := by
 have h0 : 0 < sh := by omega
 obtain ⟨W, hWe⟩ : ∃ W : World, W = (((w.alloc (.cells #[.int .i64 (sh : Int), .slice la l.length lc] 24)).alloc (.cells #[.slice sa S.st.length sc, .slice ra S.rd.length rc, .slice wa S.wr.length tc, .slice va S.vs.length vc] 29)).alloc (.cells #[.int .i64 2, .int .i64 (n : Int), .int .i64 (k : Int)] 48)) := ⟨_, rfl⟩
 have hW : Hid (Below w.heap.size w W) := by subst hWe; exact (aB (aB (aB (Below.refl _ _) _) _) _)
 have p0 : W.cell? ⟨w.heap.size, 0, none⟩ = some (.int .i64 (sh : Int)) := by subst hWe; exact aA (aB (aB (Below.refl _ _) _) _) (aE _ _ 24 _ 0 _ (by first | rfl | simp) rfl)
 have p1 : W.cell? ⟨w.heap.size, 1, none⟩ = some (.slice la l.length lc) := by subst hWe; exact aA (aB (aB (Below.refl _ _) _) _) (aE _ _ 24 _ 1 _ (by first | rfl | simp) rfl)
 have q0 : W.cell? ⟨w.heap.size + 1, 0, none⟩ = some (.slice sa S.st.length sc) := by subst hWe; exact aA (aB (Below.refl _ _) _) (aE _ _ 29 _ 0 _ (by first | rfl | simp) rfl)
 have q1 : W.cell? ⟨w.heap.size + 1, 1, none⟩ = some (.slice ra S.rd.length rc) := by subst hWe; exact aA (aB (Below.refl _ _) _) (aE _ _ 29 _ 1 _ (by first | rfl | simp) rfl)
 have q2 : W.cell? ⟨w.heap.size + 1, 2, none⟩ = some (.slice wa S.wr.length tc) := by subst hWe; exact aA (aB (Below.refl _ _) _) (aE _ _ 29 _ 2 _ (by first | rfl | simp) rfl)
 have q3 : W.cell? ⟨w.heap.size + 1, 3, none⟩ = some (.slice va S.vs.length vc) := by subst hWe; exact aA (aB (Below.refl _ _) _) (aE _ _ 29 _ 3 _ (by first | rfl | simp) rfl)
 have r0 : W.cell? ⟨w.heap.size + 2, 0, none⟩ = some (.int .i64 2) := by subst hWe; exact aA (Below.refl _ _) (aE _ _ 48 _ 0 _ (by first | rfl | simp) rfl)
 have r1 : W.cell? ⟨w.heap.size + 2, 1, none⟩ = some (.int .i64 (n : Int)) := by subst hWe; exact aA (Below.refl _ _) (aE _ _ 48 _ 1 _ (by first | rfl | simp) rfl)
 have r2 : W.cell? ⟨w.heap.size + 2, 2, none⟩ = some (.int .i64 (k : Int)) := by subst hWe; exact aA (Below.refl _ _) (aE _ _ 48 _ 2 _ (by first | rfl | simp) rfl)
 have KEEP : Hid (∀ w', Below W.heap.size W w' → w'.cell? ⟨w.heap.size, 0, none⟩ = some (.int .i64 (sh : Int)) ∧ w'.cell? ⟨w.heap.size, 1, none⟩ = some (.slice la l.length lc) ∧ w'.cell? ⟨w.heap.size + 1, 0, none⟩ = some (.slice sa S.st.length sc) ∧ w'.cell? ⟨w.heap.size + 1, 1, none⟩ = some (.slice ra S.rd.length rc) ∧ w'.cell? ⟨w.heap.size + 1, 2, none⟩ = some (.slice wa S.wr.length tc) ∧ w'.cell? ⟨w.heap.size + 1, 3, none⟩ = some (.slice va S.vs.length vc) ∧ w'.cell? ⟨w.heap.size + 2, 0, none⟩ = some (.int .i64 2) ∧ w'.cell? ⟨w.heap.size + 2, 1, none⟩ = some (.int .i64 (n : Int)) ∧ w'.cell? ⟨w.heap.size + 2, 2, none⟩ = some (.int .i64 (k : Int))) := fun w' hb => ⟨aA hb p0, aA hb p1, aA hb q0, aA hb q1, aA hb q2, aA hb q3, aA hb r0, aA hb r1, aA hb r2⟩
 have HS : Hid (Sta W sa ra wa va S) := hs.below hW.out
 have HL : Hid (IsTxs W la l) := hl.below hW.out
 have HM : Hid (dP sh l S 2 n k = (iW sh (gX l n) k && !bW S.wr n k && dE sh l S n)) := rfl
 generalize dP sh l S 2 n k = RR at *
 clear hl hs p0 p1 q0 q1 q2 q3 r0 r1 r2
 have HWe : Hid (W = _) := hWe
 clear hWe
 go_enter Tryz.func65, Tryz.ntmps65
 go_upto_region 1 with fail
 rw [← HWe.out]
 clear HWe
 obtain ⟨p0, p1, q0, q1, q2, q3, r0, r1, r2⟩ := KEEP.out W (Below.refl _ _)
 go_upto_region 2 with fail
 cases eP : iW sh (gX l n) k with
 | false =>
  have HP : Hid (iW sh (gX l n) k = false) := eP
  obtain rfl : RR = false := by rw [HM.out, eP]; rfl
  clear HM
  have CA : Hid (∀ w1, Below W.heap.size W w1 → Calls Tryz.prog 54 #[.agg #[.int .i64 sh, .slice la l.length lc], .int .i64 n] w1 fun e w' => ∃ b3 o3 c3, e = .returned (.slice (some ⟨b3, o3, none⟩) sh c3) ∧ w'.cell? ⟨b3, o3 + k, none⟩ = some (.bool false) ∧ Below w1.heap.size w1 w') := fun w1 hb => by
   refine (gK la lc l sh n _ (HL.out.below hb) (hp n hn)).mono ?_
   rintro e w2 ⟨a, c, rfl, hbs, hb2⟩
   have hL := bY sh (aL (aJ l n))
   obtain ⟨b3, o3, rfl, _, d3⟩ := hbs k (by rw [hL]; exact hk)
   refine ⟨b3, o3, c, by rw [hL], ?_, hb2⟩
   exact d3.trans (congrArg (fun x => some (Value.bool x)) HP.out)
  have KS : Hid (∀ w', Below W.heap.size W w' → w'.cell? ⟨w.heap.size, 0, none⟩ = some (.int .i64 (sh : Int)) ∧ w'.cell? ⟨w.heap.size, 1, none⟩ = some (.slice la l.length lc) ∧ w'.cell? ⟨w.heap.size + 2, 1, none⟩ = some (.int .i64 (n : Int)) ∧ w'.cell? ⟨w.heap.size + 2, 2, none⟩ = some (.int .i64 (k : Int)) ∧ Hid (Below W.heap.size W w')) := fun w' hb => ⟨aA hb p0, aA hb p1, aA hb r1, aA hb r2, hb⟩
  clear HP HS HL hF hp KEEP h8 h4 h0 p0 p1 q0 q1 q2 q3 r0 r1 r2
  refine wp_region_held_drew (S := (fun w' => w'.cell? ⟨w.heap.size, 0, none⟩ = some (.int .i64 (sh : Int)) ∧ w'.cell? ⟨w.heap.size, 1, none⟩ = some (.slice la l.length lc) ∧ w'.cell? ⟨w.heap.size + 2, 1, none⟩ = some (.int .i64 (n : Int)) ∧ w'.cell? ⟨w.heap.size + 2, 2, none⟩ = some (.int .i64 (k : Int)) ∧ Hid (Below W.heap.size W w'))) (by kernel_rfl) ?_ (fun hHeld => ?_)
  ·refine KS.out _ ?_
   exact aD (Below.refl _ _)
  refine tk (i := 0) (oi := { dst := some 11, op := .load 24 (.tmp 3), type := 24, pos := "steps.go:63", after := #[], guard := none }) (v := ?_) rfl (by kernel_rfl) (by kernel_rfl) (by kernel_rfl) (fun _ _ _ h => h) (by rfl) (by assumption) ?_ ?_; rotate_left; focus (intro w hSw; go_simp; first | done | with_reducible rfl)
  try simp only [Act.put, List.setIfInBounds_toArray, List.set_cons_zero, List.set_cons_succ]
  refine tk (i := 1) (oi := { dst := some 12, op := .fieldAddr 48 (.tmp 5) 1, type := 0, pos := "steps.go:63", after := #[], guard := none }) (v := ?_) rfl (by kernel_rfl) (by kernel_rfl) (by kernel_rfl) (fun _ _ _ h => h) (by rfl) (by assumption) ?_ ?_; rotate_left; focus (intro w hSw; go_simp; first | done | with_reducible rfl)
  try simp only [Act.put, List.setIfInBounds_toArray, List.set_cons_zero, List.set_cons_succ]
  refine tk (i := 2) (oi := { dst := some 13, op := .load 3 (.tmp 12), type := 3, pos := "steps.go:63", after := #[{ on := 1, ground := .data }], guard := none }) (v := ?_) rfl (by kernel_rfl) (by kernel_rfl) (by kernel_rfl) (fun _ _ _ h => h) (by rfl) (by assumption) ?_ ?_; rotate_left; focus (intro w hSw; go_simp; first | done | with_reducible rfl)
  try simp only [Act.put, List.setIfInBounds_toArray, List.set_cons_zero, List.set_cons_succ]
  refine tk (i := 4) (oi := { dst := some 15, op := .fieldAddr 48 (.tmp 5) 2, type := 0, pos := "steps.go:63", after := #[], guard := none }) (v := ?_) rfl (by kernel_rfl) (by kernel_rfl) (by kernel_rfl) (fun _ _ _ h => h) (by rfl) (by assumption) ?_ ?_; rotate_left; focus (intro w hSw; go_simp; first | done | with_reducible rfl)
  try simp only [Act.put, List.setIfInBounds_toArray, List.set_cons_zero, List.set_cons_succ]
  refine tk (i := 5) (oi := { dst := some 16, op := .load 3 (.tmp 15), type := 3, pos := "steps.go:63", after := #[{ on := 4, ground := .data }], guard := none }) (v := ?_) rfl (by kernel_rfl) (by kernel_rfl) (by kernel_rfl) (fun _ _ _ h => h) (by rfl) (by assumption) ?_ ?_; rotate_left; focus (intro w hSw; go_simp; first | done | with_reducible rfl)
  try simp only [Act.put, List.setIfInBounds_toArray, List.set_cons_zero, List.set_cons_succ]
  refine wpAnyH_ready (rs := [3]) (by kernel_rfl) (by simp) ?_
  refine AllReadyH.cons (o := { dst := some 14, op := .call { callee := .value (.func 54), args := #[.tmp 11, .tmp 13], argTypes := #[24, 3] }, type := 65, pos := "steps.go:63", after := #[{ on := 0, ground := .data }, { on := 2, ground := .data }], guard := none }) rfl (fun K hK => ?_) AllReadyH.nil
  go_simp
  go_wp2_with (go_at_call 54; refine (CA.out _ (aD (Below.refl _ _))).mono ?_; rintro e w1 ⟨b3, o3, c3, rfl, d3, hb1⟩)
  have BW : Hid (Below W.heap.size W w1) := aC (aD (Below.refl _ _)) hb1
  clear hHeld
  refine hK.out _ _ (KS.out _ BW.out) (fun hHeld => ?_)
  clear hK K
  refine tk (i := 6) (oi := { dst := some 17, op := .indexAddr 65 (.tmp 14) (.tmp 16), type := 0, pos := "steps.go:63", after := #[{ on := 3, ground := .data }, { on := 5, ground := .data }], guard := none }) (v := ?_) rfl (by kernel_rfl) (by kernel_rfl) (by kernel_rfl) (fun _ _ _ h => h) (by rfl) (by assumption) ?_ ?_; rotate_left; focus (intro w hSw; go_simp; first | done | with_reducible rfl)
  try simp only [Act.put, List.setIfInBounds_toArray, List.set_cons_zero, List.set_cons_succ]
  refine wpAnyH_ready (rs := [7]) (by kernel_rfl) (by simp) ?_
  refine AllReadyH.cons (o := { dst := some 18, op := .load 4 (.tmp 17), type := 4, pos := "steps.go:63", after := #[{ on := 6, ground := .data }], guard := none }) rfl (fun K hK => ?_) AllReadyH.nil
  go_simp
  skip
  clear hHeld
  refine hK.out _ _ (KS.out _ BW.out) (fun hHeld => ?_)
  clear hK K
  refine tk (i := 8) (oi := { dst := some 19, op := .move (.tmp 18), type := 4, pos := "steps.go:63", after := #[{ on := 7, ground := .data }, { on := 3, ground := .chain }], guard := none }) (v := ?_) rfl (by kernel_rfl) (by kernel_rfl) (by kernel_rfl) (fun _ _ _ h => h) (by rfl) (by assumption) ?_ ?_; rotate_left; focus (intro w hSw; go_simp; first | done | with_reducible rfl)
  try simp only [Act.put, List.setIfInBounds_toArray, List.set_cons_zero, List.set_cons_succ]
  refine wpAnyH_take (i := 9) (oi := { dst := some 20, op := .fieldAddr 29 (.tmp 4) 2, type := 0, pos := "steps.go:63", after := #[{ on := 8, ground := .guard }], guard := some (8, true) }) (v := undef) rfl (by kernel_rfl) (by kernel_rfl) (by kernel_rfl) (fun _ _ _ h => h) (Or.inr ⟨by rfl, rfl⟩) (by assumption) ?_
  try simp only [Act.put, List.setIfInBounds_toArray, List.set_cons_zero, List.set_cons_succ]
  refine wpAnyH_take (i := 10) (oi := { dst := some 21, op := .load 26 (.tmp 20), type := 26, pos := "steps.go:63", after := #[{ on := 9, ground := .data }, { on := 8, ground := .guard }], guard := some (8, true) }) (v := undef) rfl (by kernel_rfl) (by kernel_rfl) (by kernel_rfl) (fun _ _ _ h => h) (Or.inr ⟨by rfl, rfl⟩) (by assumption) ?_
  try simp only [Act.put, List.setIfInBounds_toArray, List.set_cons_zero, List.set_cons_succ]
  refine wpAnyH_take (i := 11) (oi := { dst := some 22, op := .fieldAddr 48 (.tmp 5) 1, type := 0, pos := "steps.go:63", after := #[{ on := 8, ground := .guard }], guard := some (8, true) }) (v := undef) rfl (by kernel_rfl) (by kernel_rfl) (by kernel_rfl) (fun _ _ _ h => h) (Or.inr ⟨by rfl, rfl⟩) (by assumption) ?_
  try simp only [Act.put, List.setIfInBounds_toArray, List.set_cons_zero, List.set_cons_succ]
  refine wpAnyH_take (i := 12) (oi := { dst := some 23, op := .load 3 (.tmp 22), type := 3, pos := "steps.go:63", after := #[{ on := 11, ground := .data }, { on := 8, ground := .guard }], guard := some (8, true) }) (v := undef) rfl (by kernel_rfl) (by kernel_rfl) (by kernel_rfl) (fun _ _ _ h => h) (Or.inr ⟨by rfl, rfl⟩) (by assumption) ?_
  try simp only [Act.put, List.setIfInBounds_toArray, List.set_cons_zero, List.set_cons_succ]
  refine wpAnyH_take (i := 13) (oi := { dst := some 24, op := .indexAddr 26 (.tmp 21) (.tmp 23), type := 0, pos := "steps.go:63", after := #[{ on := 10, ground := .data }, { on := 12, ground := .data }, { on := 8, ground := .guard }], guard := some (8, true) }) (v := undef) rfl (by kernel_rfl) (by kernel_rfl) (by kernel_rfl) (fun _ _ _ h => h) (Or.inr ⟨by rfl, rfl⟩) (by assumption) ?_
  try simp only [Act.put, List.setIfInBounds_toArray, List.set_cons_zero, List.set_cons_succ]
  refine wpAnyH_take (i := 14) (oi := { dst := some 25, op := .load 65 (.tmp 24), type := 65, pos := "steps.go:63", after := #[{ on := 13, ground := .data }, { on := 8, ground := .guard }], guard := some (8, true) }) (v := undef) rfl (by kernel_rfl) (by kernel_rfl) (by kernel_rfl) (fun _ _ _ h => h) (Or.inr ⟨by rfl, rfl⟩) (by assumption) ?_
  try simp only [Act.put, List.setIfInBounds_toArray, List.set_cons_zero, List.set_cons_succ]
  refine wpAnyH_take (i := 15) (oi := { dst := some 26, op := .fieldAddr 48 (.tmp 5) 2, type := 0, pos := "steps.go:63", after := #[{ on := 8, ground := .guard }], guard := some (8, true) }) (v := undef) rfl (by kernel_rfl) (by kernel_rfl) (by kernel_rfl) (fun _ _ _ h => h) (Or.inr ⟨by rfl, rfl⟩) (by assumption) ?_
  try simp only [Act.put, List.setIfInBounds_toArray, List.set_cons_zero, List.set_cons_succ]
  refine wpAnyH_take (i := 16) (oi := { dst := some 27, op := .load 3 (.tmp 26), type := 3, pos := "steps.go:63", after := #[{ on := 15, ground := .data }, { on := 8, ground := .guard }], guard := some (8, true) }) (v := undef) rfl (by kernel_rfl) (by kernel_rfl) (by kernel_rfl) (fun _ _ _ h => h) (Or.inr ⟨by rfl, rfl⟩) (by assumption) ?_
  try simp only [Act.put, List.setIfInBounds_toArray, List.set_cons_zero, List.set_cons_succ]
  refine wpAnyH_take (i := 17) (oi := { dst := some 28, op := .indexAddr 65 (.tmp 25) (.tmp 27), type := 0, pos := "steps.go:63", after := #[{ on := 14, ground := .data }, { on := 16, ground := .data }, { on := 8, ground := .guard }], guard := some (8, true) }) (v := undef) rfl (by kernel_rfl) (by kernel_rfl) (by kernel_rfl) (fun _ _ _ h => h) (Or.inr ⟨by rfl, rfl⟩) (by assumption) ?_
  try simp only [Act.put, List.setIfInBounds_toArray, List.set_cons_zero, List.set_cons_succ]
  refine wpAnyH_take (i := 18) (oi := { dst := some 29, op := .load 4 (.tmp 28), type := 4, pos := "steps.go:63", after := #[{ on := 17, ground := .data }, { on := 8, ground := .guard }], guard := some (8, true) }) (v := undef) rfl (by kernel_rfl) (by kernel_rfl) (by kernel_rfl) (fun _ _ _ h => h) (Or.inr ⟨by rfl, rfl⟩) (by assumption) ?_
  try simp only [Act.put, List.setIfInBounds_toArray, List.set_cons_zero, List.set_cons_succ]
  refine wpAnyH_take (i := 19) (oi := { dst := some 30, op := .unOp .not 4 (.tmp 29), type := 4, pos := "steps.go:63", after := #[{ on := 18, ground := .data }, { on := 8, ground := .guard }], guard := some (8, true) }) (v := undef) rfl (by kernel_rfl) (by kernel_rfl) (by kernel_rfl) (fun _ _ _ h => h) (Or.inr ⟨by rfl, rfl⟩) (by assumption) ?_
  try simp only [Act.put, List.setIfInBounds_toArray, List.set_cons_zero, List.set_cons_succ]
  refine tk (i := 20) (oi := { dst := some 31, op := .pick (.tmp 19) (.tmp 30) (.const (.bool false)), type := 4, pos := "steps.go:63", after := #[{ on := 8, ground := .data }, { on := 19, ground := .data }], guard := none }) (v := ?_) rfl (by kernel_rfl) (by kernel_rfl) (by kernel_rfl) (fun _ _ _ h => h) (by rfl) (by assumption) ?_ ?_; rotate_left; focus (intro w hSw; go_simp; first | done | with_reducible rfl)
  try simp only [Act.put, List.setIfInBounds_toArray, List.set_cons_zero, List.set_cons_succ]
  refine tk (i := 21) (oi := { dst := some 32, op := .move (.tmp 31), type := 4, pos := "steps.go:63", after := #[{ on := 20, ground := .data }, { on := 8, ground := .chain }], guard := none }) (v := ?_) rfl (by kernel_rfl) (by kernel_rfl) (by kernel_rfl) (fun _ _ _ h => h) (by rfl) (by assumption) ?_ ?_; rotate_left; focus (intro w hSw; go_simp; first | done | with_reducible rfl)
  try simp only [Act.put, List.setIfInBounds_toArray, List.set_cons_zero, List.set_cons_succ]
  refine wpAnyH_take (i := 22) (oi := { dst := some 33, op := .load 24 (.tmp 3), type := 24, pos := "steps.go:63", after := #[{ on := 21, ground := .guard }], guard := some (21, true) }) (v := undef) rfl (by kernel_rfl) (by kernel_rfl) (by kernel_rfl) (fun _ _ _ h => h) (Or.inr ⟨by rfl, rfl⟩) (by assumption) ?_
  try simp only [Act.put, List.setIfInBounds_toArray, List.set_cons_zero, List.set_cons_succ]
  refine wpAnyH_take (i := 23) (oi := { dst := some 34, op := .load 29 (.tmp 4), type := 29, pos := "steps.go:63", after := #[{ on := 21, ground := .guard }], guard := some (21, true) }) (v := undef) rfl (by kernel_rfl) (by kernel_rfl) (by kernel_rfl) (fun _ _ _ h => h) (Or.inr ⟨by rfl, rfl⟩) (by assumption) ?_
  try simp only [Act.put, List.setIfInBounds_toArray, List.set_cons_zero, List.set_cons_succ]
  refine wpAnyH_take (i := 24) (oi := { dst := some 35, op := .fieldAddr 48 (.tmp 5) 1, type := 0, pos := "steps.go:63", after := #[{ on := 21, ground := .guard }], guard := some (21, true) }) (v := undef) rfl (by kernel_rfl) (by kernel_rfl) (by kernel_rfl) (fun _ _ _ h => h) (Or.inr ⟨by rfl, rfl⟩) (by assumption) ?_
  try simp only [Act.put, List.setIfInBounds_toArray, List.set_cons_zero, List.set_cons_succ]
  refine wpAnyH_take (i := 25) (oi := { dst := some 36, op := .load 3 (.tmp 35), type := 3, pos := "steps.go:63", after := #[{ on := 24, ground := .data }, { on := 21, ground := .guard }], guard := some (21, true) }) (v := undef) rfl (by kernel_rfl) (by kernel_rfl) (by kernel_rfl) (fun _ _ _ h => h) (Or.inr ⟨by rfl, rfl⟩) (by assumption) ?_
  try simp only [Act.put, List.setIfInBounds_toArray, List.set_cons_zero, List.set_cons_succ]
  refine wpAnyH_take (i := 26) (oi := { dst := some 37, op := .call { callee := .value (.func 55), args := #[.tmp 33, .tmp 34, .tmp 36], argTypes := #[24, 29, 3] }, type := 4, pos := "steps.go:63", after := #[{ on := 22, ground := .data }, { on := 23, ground := .data }, { on := 25, ground := .data }, { on := 21, ground := .chain }, { on := 21, ground := .guard }], guard := some (21, true) }) (v := undef) rfl (by kernel_rfl) (by kernel_rfl) (by kernel_rfl) (fun _ _ _ h => h) (Or.inr ⟨by rfl, rfl⟩) (by assumption) ?_
  try simp only [Act.put, List.setIfInBounds_toArray, List.set_cons_zero, List.set_cons_succ]
  refine tk (i := 27) (oi := { dst := some 38, op := .pick (.tmp 32) (.tmp 37) (.const (.bool false)), type := 4, pos := "steps.go:63", after := #[{ on := 21, ground := .data }, { on := 26, ground := .data }], guard := none }) (v := ?_) rfl (by kernel_rfl) (by kernel_rfl) (by kernel_rfl) (fun _ _ _ h => h) (by rfl) (by assumption) ?_ ?_; rotate_left; focus (intro w hSw; go_simp; first | done | with_reducible rfl)
  try simp only [Act.put, List.setIfInBounds_toArray, List.set_cons_zero, List.set_cons_succ]
  refine tk (i := 28) (oi := { dst := some 6, op := .assign (.tmp 38), type := 4, pos := "steps.go:63", after := #[{ on := 27, ground := .data }, { on := 26, ground := .chain }, { on := 0, ground := .phase }, { on := 1, ground := .phase }, { on := 2, ground := .phase }, { on := 3, ground := .phase }, { on := 4, ground := .phase }, { on := 5, ground := .phase }, { on := 6, ground := .phase }, { on := 7, ground := .phase }, { on := 8, ground := .phase }, { on := 9, ground := .phase }, { on := 10, ground := .phase }, { on := 11, ground := .phase }, { on := 12, ground := .phase }, { on := 13, ground := .phase }, { on := 14, ground := .phase }, { on := 15, ground := .phase }, { on := 16, ground := .phase }, { on := 17, ground := .phase }, { on := 18, ground := .phase }, { on := 19, ground := .phase }, { on := 20, ground := .phase }, { on := 21, ground := .phase }, { on := 22, ground := .phase }, { on := 23, ground := .phase }, { on := 24, ground := .phase }, { on := 25, ground := .phase }, { on := 26, ground := .phase }, { on := 27, ground := .phase }], guard := none }) (v := ?_) rfl (by kernel_rfl) (by kernel_rfl) (by kernel_rfl) (fun _ _ _ h => h) (by rfl) (by assumption) ?_ ?_; rotate_left; focus (intro w hSw; go_simp; first | done | with_reducible rfl)
  try simp only [Act.put, List.setIfInBounds_toArray, List.set_cons_zero, List.set_cons_succ]
  refine wpAnyH_done (by kernel_rfl) ?_ _
  go_wp2
  go_ret
  exact ⟨rfl, aC hW.out BW.out⟩
 | true =>
  have HP : Hid (iW sh (gX l n) k = true) := eP
  cases eQ : bW S.wr n k with
  | true =>
   obtain rfl : RR = false := by rw [HM.out, eP, eQ]; rfl
   clear HM
   have CA : Hid (∀ w1, Below W.heap.size W w1 → Calls Tryz.prog 54 #[.agg #[.int .i64 sh, .slice la l.length lc], .int .i64 n] w1 fun e w' => ∃ b3 o3 c3, e = .returned (.slice (some ⟨b3, o3, none⟩) sh c3) ∧ w'.cell? ⟨b3, o3 + k, none⟩ = some (.bool true) ∧ Below w1.heap.size w1 w') := fun w1 hb => by
    refine (gK la lc l sh n _ (HL.out.below hb) (hp n hn)).mono ?_
    rintro e w2 ⟨a, c, rfl, hbs, hb2⟩
    have hL := bY sh (aL (aJ l n))
    obtain ⟨b3, o3, rfl, _, d3⟩ := hbs k (by rw [hL]; exact hk)
    refine ⟨b3, o3, c, by rw [hL], ?_, hb2⟩
    exact d3.trans (congrArg (fun x => some (Value.bool x)) HP.out)
   obtain ⟨b6, o6, b7, o7, c7, e6, _, _, z6, z7⟩ := HS.out.wr.rows hF.wr hF.wn h0 n hn
   have z7 := z7 k hk
   rw [eQ] at z7
   rw [e6, hF.wr] at q2
   have KS : Hid (∀ w', Below W.heap.size W w' → w'.cell? ⟨w.heap.size, 0, none⟩ = some (.int .i64 (sh : Int)) ∧ w'.cell? ⟨w.heap.size, 1, none⟩ = some (.slice la l.length lc) ∧ w'.cell? ⟨w.heap.size + 1, 2, none⟩ = some (.slice (some ⟨b6, o6, none⟩) l.length tc) ∧ w'.cell? ⟨w.heap.size + 2, 1, none⟩ = some (.int .i64 (n : Int)) ∧ w'.cell? ⟨w.heap.size + 2, 2, none⟩ = some (.int .i64 (k : Int)) ∧ w'.cell? ⟨b6, o6 + n, none⟩ = some (.slice (some ⟨b7, o7, none⟩) sh c7) ∧ w'.cell? ⟨b7, o7 + k, none⟩ = some (.bool true) ∧ Hid (Below W.heap.size W w')) := fun w' hb => ⟨aA hb p0, aA hb p1, aA hb q2, aA hb r1, aA hb r2, aA hb z6, aA hb z7, hb⟩
   clear HP HS HL hF hp KEEP h8 h4 h0 p0 p1 q0 q1 q2 q3 r0 r1 r2 z6 z7 e6
   refine wp_region_held_drew (S := (fun w' => w'.cell? ⟨w.heap.size, 0, none⟩ = some (.int .i64 (sh : Int)) ∧ w'.cell? ⟨w.heap.size, 1, none⟩ = some (.slice la l.length lc) ∧ w'.cell? ⟨w.heap.size + 1, 2, none⟩ = some (.slice (some ⟨b6, o6, none⟩) l.length tc) ∧ w'.cell? ⟨w.heap.size + 2, 1, none⟩ = some (.int .i64 (n : Int)) ∧ w'.cell? ⟨w.heap.size + 2, 2, none⟩ = some (.int .i64 (k : Int)) ∧ w'.cell? ⟨b6, o6 + n, none⟩ = some (.slice (some ⟨b7, o7, none⟩) sh c7) ∧ w'.cell? ⟨b7, o7 + k, none⟩ = some (.bool true) ∧ Hid (Below W.heap.size W w'))) (by kernel_rfl) ?_ (fun hHeld => ?_)
   ·refine KS.out _ ?_
    exact aD (Below.refl _ _)
   refine tk (i := 0) (oi := { dst := some 11, op := .load 24 (.tmp 3), type := 24, pos := "steps.go:63", after := #[], guard := none }) (v := ?_) rfl (by kernel_rfl) (by kernel_rfl) (by kernel_rfl) (fun _ _ _ h => h) (by rfl) (by assumption) ?_ ?_; rotate_left; focus (intro w hSw; go_simp; first | done | with_reducible rfl)
   try simp only [Act.put, List.setIfInBounds_toArray, List.set_cons_zero, List.set_cons_succ]
   refine tk (i := 1) (oi := { dst := some 12, op := .fieldAddr 48 (.tmp 5) 1, type := 0, pos := "steps.go:63", after := #[], guard := none }) (v := ?_) rfl (by kernel_rfl) (by kernel_rfl) (by kernel_rfl) (fun _ _ _ h => h) (by rfl) (by assumption) ?_ ?_; rotate_left; focus (intro w hSw; go_simp; first | done | with_reducible rfl)
   try simp only [Act.put, List.setIfInBounds_toArray, List.set_cons_zero, List.set_cons_succ]
   refine tk (i := 2) (oi := { dst := some 13, op := .load 3 (.tmp 12), type := 3, pos := "steps.go:63", after := #[{ on := 1, ground := .data }], guard := none }) (v := ?_) rfl (by kernel_rfl) (by kernel_rfl) (by kernel_rfl) (fun _ _ _ h => h) (by rfl) (by assumption) ?_ ?_; rotate_left; focus (intro w hSw; go_simp; first | done | with_reducible rfl)
   try simp only [Act.put, List.setIfInBounds_toArray, List.set_cons_zero, List.set_cons_succ]
   refine tk (i := 4) (oi := { dst := some 15, op := .fieldAddr 48 (.tmp 5) 2, type := 0, pos := "steps.go:63", after := #[], guard := none }) (v := ?_) rfl (by kernel_rfl) (by kernel_rfl) (by kernel_rfl) (fun _ _ _ h => h) (by rfl) (by assumption) ?_ ?_; rotate_left; focus (intro w hSw; go_simp; first | done | with_reducible rfl)
   try simp only [Act.put, List.setIfInBounds_toArray, List.set_cons_zero, List.set_cons_succ]
   refine tk (i := 5) (oi := { dst := some 16, op := .load 3 (.tmp 15), type := 3, pos := "steps.go:63", after := #[{ on := 4, ground := .data }], guard := none }) (v := ?_) rfl (by kernel_rfl) (by kernel_rfl) (by kernel_rfl) (fun _ _ _ h => h) (by rfl) (by assumption) ?_ ?_; rotate_left; focus (intro w hSw; go_simp; first | done | with_reducible rfl)
   try simp only [Act.put, List.setIfInBounds_toArray, List.set_cons_zero, List.set_cons_succ]
   refine wpAnyH_ready (rs := [3]) (by kernel_rfl) (by simp) ?_
   refine AllReadyH.cons (o := { dst := some 14, op := .call { callee := .value (.func 54), args := #[.tmp 11, .tmp 13], argTypes := #[24, 3] }, type := 65, pos := "steps.go:63", after := #[{ on := 0, ground := .data }, { on := 2, ground := .data }], guard := none }) rfl (fun K hK => ?_) AllReadyH.nil
   go_simp
   go_wp2_with (go_at_call 54; refine (CA.out _ (aD (Below.refl _ _))).mono ?_; rintro e w1 ⟨b3, o3, c3, rfl, d3, hb1⟩)
   have BW : Hid (Below W.heap.size W w1) := aC (aD (Below.refl _ _)) hb1
   clear hHeld
   refine hK.out _ _ (KS.out _ BW.out) (fun hHeld => ?_)
   clear hK K
   refine tk (i := 6) (oi := { dst := some 17, op := .indexAddr 65 (.tmp 14) (.tmp 16), type := 0, pos := "steps.go:63", after := #[{ on := 3, ground := .data }, { on := 5, ground := .data }], guard := none }) (v := ?_) rfl (by kernel_rfl) (by kernel_rfl) (by kernel_rfl) (fun _ _ _ h => h) (by rfl) (by assumption) ?_ ?_; rotate_left; focus (intro w hSw; go_simp; first | done | with_reducible rfl)
   try simp only [Act.put, List.setIfInBounds_toArray, List.set_cons_zero, List.set_cons_succ]
   refine wpAnyH_ready (rs := [7]) (by kernel_rfl) (by simp) ?_
   refine AllReadyH.cons (o := { dst := some 18, op := .load 4 (.tmp 17), type := 4, pos := "steps.go:63", after := #[{ on := 6, ground := .data }], guard := none }) rfl (fun K hK => ?_) AllReadyH.nil
   go_simp
   skip
   clear hHeld
   refine hK.out _ _ (KS.out _ BW.out) (fun hHeld => ?_)
   clear hK K
   refine tk (i := 8) (oi := { dst := some 19, op := .move (.tmp 18), type := 4, pos := "steps.go:63", after := #[{ on := 7, ground := .data }, { on := 3, ground := .chain }], guard := none }) (v := ?_) rfl (by kernel_rfl) (by kernel_rfl) (by kernel_rfl) (fun _ _ _ h => h) (by rfl) (by assumption) ?_ ?_; rotate_left; focus (intro w hSw; go_simp; first | done | with_reducible rfl)
   try simp only [Act.put, List.setIfInBounds_toArray, List.set_cons_zero, List.set_cons_succ]
   refine tk (i := 9) (oi := { dst := some 20, op := .fieldAddr 29 (.tmp 4) 2, type := 0, pos := "steps.go:63", after := #[{ on := 8, ground := .guard }], guard := some (8, true) }) (v := ?_) rfl (by kernel_rfl) (by kernel_rfl) (by kernel_rfl) (fun _ _ _ h => h) (by rfl) (by assumption) ?_ ?_; rotate_left; focus (intro w hSw; go_simp; first | done | with_reducible rfl)
   try simp only [Act.put, List.setIfInBounds_toArray, List.set_cons_zero, List.set_cons_succ]
   refine tk (i := 10) (oi := { dst := some 21, op := .load 26 (.tmp 20), type := 26, pos := "steps.go:63", after := #[{ on := 9, ground := .data }, { on := 8, ground := .guard }], guard := some (8, true) }) (v := ?_) rfl (by kernel_rfl) (by kernel_rfl) (by kernel_rfl) (fun _ _ _ h => h) (by rfl) (by assumption) ?_ ?_; rotate_left; focus (intro w hSw; go_simp; first | done | with_reducible rfl)
   try simp only [Act.put, List.setIfInBounds_toArray, List.set_cons_zero, List.set_cons_succ]
   refine tk (i := 11) (oi := { dst := some 22, op := .fieldAddr 48 (.tmp 5) 1, type := 0, pos := "steps.go:63", after := #[{ on := 8, ground := .guard }], guard := some (8, true) }) (v := ?_) rfl (by kernel_rfl) (by kernel_rfl) (by kernel_rfl) (fun _ _ _ h => h) (by rfl) (by assumption) ?_ ?_; rotate_left; focus (intro w hSw; go_simp; first | done | with_reducible rfl)
   try simp only [Act.put, List.setIfInBounds_toArray, List.set_cons_zero, List.set_cons_succ]
   refine tk (i := 12) (oi := { dst := some 23, op := .load 3 (.tmp 22), type := 3, pos := "steps.go:63", after := #[{ on := 11, ground := .data }, { on := 8, ground := .guard }], guard := some (8, true) }) (v := ?_) rfl (by kernel_rfl) (by kernel_rfl) (by kernel_rfl) (fun _ _ _ h => h) (by rfl) (by assumption) ?_ ?_; rotate_left; focus (intro w hSw; go_simp; first | done | with_reducible rfl)
   try simp only [Act.put, List.setIfInBounds_toArray, List.set_cons_zero, List.set_cons_succ]
   refine tk (i := 13) (oi := { dst := some 24, op := .indexAddr 26 (.tmp 21) (.tmp 23), type := 0, pos := "steps.go:63", after := #[{ on := 10, ground := .data }, { on := 12, ground := .data }, { on := 8, ground := .guard }], guard := some (8, true) }) (v := ?_) rfl (by kernel_rfl) (by kernel_rfl) (by kernel_rfl) (fun _ _ _ h => h) (by rfl) (by assumption) ?_ ?_; rotate_left; focus (intro w hSw; go_simp; first | done | with_reducible rfl)
   try simp only [Act.put, List.setIfInBounds_toArray, List.set_cons_zero, List.set_cons_succ]
   refine tk (i := 14) (oi := { dst := some 25, op := .load 65 (.tmp 24), type := 65, pos := "steps.go:63", after := #[{ on := 13, ground := .data }, { on := 8, ground := .guard }], guard := some (8, true) }) (v := ?_) rfl (by kernel_rfl) (by kernel_rfl) (by kernel_rfl) (fun _ _ _ h => h) (by rfl) (by assumption) ?_ ?_; rotate_left; focus (intro w hSw; go_simp; first | done | with_reducible rfl)
   try simp only [Act.put, List.setIfInBounds_toArray, List.set_cons_zero, List.set_cons_succ]
   refine tk (i := 15) (oi := { dst := some 26, op := .fieldAddr 48 (.tmp 5) 2, type := 0, pos := "steps.go:63", after := #[{ on := 8, ground := .guard }], guard := some (8, true) }) (v := ?_) rfl (by kernel_rfl) (by kernel_rfl) (by kernel_rfl) (fun _ _ _ h => h) (by rfl) (by assumption) ?_ ?_; rotate_left; focus (intro w hSw; go_simp; first | done | with_reducible rfl)
   try simp only [Act.put, List.setIfInBounds_toArray, List.set_cons_zero, List.set_cons_succ]
   refine tk (i := 16) (oi := { dst := some 27, op := .load 3 (.tmp 26), type := 3, pos := "steps.go:63", after := #[{ on := 15, ground := .data }, { on := 8, ground := .guard }], guard := some (8, true) }) (v := ?_) rfl (by kernel_rfl) (by kernel_rfl) (by kernel_rfl) (fun _ _ _ h => h) (by rfl) (by assumption) ?_ ?_; rotate_left; focus (intro w hSw; go_simp; first | done | with_reducible rfl)
   try simp only [Act.put, List.setIfInBounds_toArray, List.set_cons_zero, List.set_cons_succ]
   refine tk (i := 17) (oi := { dst := some 28, op := .indexAddr 65 (.tmp 25) (.tmp 27), type := 0, pos := "steps.go:63", after := #[{ on := 14, ground := .data }, { on := 16, ground := .data }, { on := 8, ground := .guard }], guard := some (8, true) }) (v := ?_) rfl (by kernel_rfl) (by kernel_rfl) (by kernel_rfl) (fun _ _ _ h => h) (by rfl) (by assumption) ?_ ?_; rotate_left; focus (intro w hSw; go_simp; first | done | with_reducible rfl)
   try simp only [Act.put, List.setIfInBounds_toArray, List.set_cons_zero, List.set_cons_succ]
   refine tk (i := 18) (oi := { dst := some 29, op := .load 4 (.tmp 28), type := 4, pos := "steps.go:63", after := #[{ on := 17, ground := .data }, { on := 8, ground := .guard }], guard := some (8, true) }) (v := ?_) rfl (by kernel_rfl) (by kernel_rfl) (by kernel_rfl) (fun _ _ _ h => h) (by rfl) (by assumption) ?_ ?_; rotate_left; focus (intro w hSw; go_simp; first | done | with_reducible rfl)
   try simp only [Act.put, List.setIfInBounds_toArray, List.set_cons_zero, List.set_cons_succ]
   refine tk (i := 19) (oi := { dst := some 30, op := .unOp .not 4 (.tmp 29), type := 4, pos := "steps.go:63", after := #[{ on := 18, ground := .data }, { on := 8, ground := .guard }], guard := some (8, true) }) (v := ?_) rfl (by kernel_rfl) (by kernel_rfl) (by kernel_rfl) (fun _ _ _ h => h) (by rfl) (by assumption) ?_ ?_; rotate_left; focus (intro w hSw; go_simp; first | done | with_reducible rfl)
   try simp only [Act.put, List.setIfInBounds_toArray, List.set_cons_zero, List.set_cons_succ]
   refine tk (i := 20) (oi := { dst := some 31, op := .pick (.tmp 19) (.tmp 30) (.const (.bool false)), type := 4, pos := "steps.go:63", after := #[{ on := 8, ground := .data }, { on := 19, ground := .data }], guard := none }) (v := ?_) rfl (by kernel_rfl) (by kernel_rfl) (by kernel_rfl) (fun _ _ _ h => h) (by rfl) (by assumption) ?_ ?_; rotate_left; focus (intro w hSw; go_simp; first | done | with_reducible rfl)
   try simp only [Act.put, List.setIfInBounds_toArray, List.set_cons_zero, List.set_cons_succ]
   refine tk (i := 21) (oi := { dst := some 32, op := .move (.tmp 31), type := 4, pos := "steps.go:63", after := #[{ on := 20, ground := .data }, { on := 8, ground := .chain }], guard := none }) (v := ?_) rfl (by kernel_rfl) (by kernel_rfl) (by kernel_rfl) (fun _ _ _ h => h) (by rfl) (by assumption) ?_ ?_; rotate_left; focus (intro w hSw; go_simp; first | done | with_reducible rfl)
   try simp only [Act.put, List.setIfInBounds_toArray, List.set_cons_zero, List.set_cons_succ]
   refine wpAnyH_take (i := 22) (oi := { dst := some 33, op := .load 24 (.tmp 3), type := 24, pos := "steps.go:63", after := #[{ on := 21, ground := .guard }], guard := some (21, true) }) (v := undef) rfl (by kernel_rfl) (by kernel_rfl) (by kernel_rfl) (fun _ _ _ h => h) (Or.inr ⟨by rfl, rfl⟩) (by assumption) ?_
   try simp only [Act.put, List.setIfInBounds_toArray, List.set_cons_zero, List.set_cons_succ]
   refine wpAnyH_take (i := 23) (oi := { dst := some 34, op := .load 29 (.tmp 4), type := 29, pos := "steps.go:63", after := #[{ on := 21, ground := .guard }], guard := some (21, true) }) (v := undef) rfl (by kernel_rfl) (by kernel_rfl) (by kernel_rfl) (fun _ _ _ h => h) (Or.inr ⟨by rfl, rfl⟩) (by assumption) ?_
   try simp only [Act.put, List.setIfInBounds_toArray, List.set_cons_zero, List.set_cons_succ]
   refine wpAnyH_take (i := 24) (oi := { dst := some 35, op := .fieldAddr 48 (.tmp 5) 1, type := 0, pos := "steps.go:63", after := #[{ on := 21, ground := .guard }], guard := some (21, true) }) (v := undef) rfl (by kernel_rfl) (by kernel_rfl) (by kernel_rfl) (fun _ _ _ h => h) (Or.inr ⟨by rfl, rfl⟩) (by assumption) ?_
   try simp only [Act.put, List.setIfInBounds_toArray, List.set_cons_zero, List.set_cons_succ]
   refine wpAnyH_take (i := 25) (oi := { dst := some 36, op := .load 3 (.tmp 35), type := 3, pos := "steps.go:63", after := #[{ on := 24, ground := .data }, { on := 21, ground := .guard }], guard := some (21, true) }) (v := undef) rfl (by kernel_rfl) (by kernel_rfl) (by kernel_rfl) (fun _ _ _ h => h) (Or.inr ⟨by rfl, rfl⟩) (by assumption) ?_
   try simp only [Act.put, List.setIfInBounds_toArray, List.set_cons_zero, List.set_cons_succ]
   refine wpAnyH_take (i := 26) (oi := { dst := some 37, op := .call { callee := .value (.func 55), args := #[.tmp 33, .tmp 34, .tmp 36], argTypes := #[24, 29, 3] }, type := 4, pos := "steps.go:63", after := #[{ on := 22, ground := .data }, { on := 23, ground := .data }, { on := 25, ground := .data }, { on := 21, ground := .chain }, { on := 21, ground := .guard }], guard := some (21, true) }) (v := undef) rfl (by kernel_rfl) (by kernel_rfl) (by kernel_rfl) (fun _ _ _ h => h) (Or.inr ⟨by rfl, rfl⟩) (by assumption) ?_
   try simp only [Act.put, List.setIfInBounds_toArray, List.set_cons_zero, List.set_cons_succ]
   refine tk (i := 27) (oi := { dst := some 38, op := .pick (.tmp 32) (.tmp 37) (.const (.bool false)), type := 4, pos := "steps.go:63", after := #[{ on := 21, ground := .data }, { on := 26, ground := .data }], guard := none }) (v := ?_) rfl (by kernel_rfl) (by kernel_rfl) (by kernel_rfl) (fun _ _ _ h => h) (by rfl) (by assumption) ?_ ?_; rotate_left; focus (intro w hSw; go_simp; first | done | with_reducible rfl)
   try simp only [Act.put, List.setIfInBounds_toArray, List.set_cons_zero, List.set_cons_succ]
   refine tk (i := 28) (oi := { dst := some 6, op := .assign (.tmp 38), type := 4, pos := "steps.go:63", after := #[{ on := 27, ground := .data }, { on := 26, ground := .chain }, { on := 0, ground := .phase }, { on := 1, ground := .phase }, { on := 2, ground := .phase }, { on := 3, ground := .phase }, { on := 4, ground := .phase }, { on := 5, ground := .phase }, { on := 6, ground := .phase }, { on := 7, ground := .phase }, { on := 8, ground := .phase }, { on := 9, ground := .phase }, { on := 10, ground := .phase }, { on := 11, ground := .phase }, { on := 12, ground := .phase }, { on := 13, ground := .phase }, { on := 14, ground := .phase }, { on := 15, ground := .phase }, { on := 16, ground := .phase }, { on := 17, ground := .phase }, { on := 18, ground := .phase }, { on := 19, ground := .phase }, { on := 20, ground := .phase }, { on := 21, ground := .phase }, { on := 22, ground := .phase }, { on := 23, ground := .phase }, { on := 24, ground := .phase }, { on := 25, ground := .phase }, { on := 26, ground := .phase }, { on := 27, ground := .phase }], guard := none }) (v := ?_) rfl (by kernel_rfl) (by kernel_rfl) (by kernel_rfl) (fun _ _ _ h => h) (by rfl) (by assumption) ?_ ?_; rotate_left; focus (intro w hSw; go_simp; first | done | with_reducible rfl)
   try simp only [Act.put, List.setIfInBounds_toArray, List.set_cons_zero, List.set_cons_succ]
   refine wpAnyH_done (by kernel_rfl) ?_ _
   go_wp2
   go_ret
   exact ⟨rfl, aC hW.out BW.out⟩
  | false =>
   have HRR : Hid (RR = dE sh l S n) := by show _ = _; rw [HM.out, eP, eQ]; rfl
   clear HM
   have CA : Hid (∀ w1, Below W.heap.size W w1 → Calls Tryz.prog 54 #[.agg #[.int .i64 sh, .slice la l.length lc], .int .i64 n] w1 fun e w' => ∃ b3 o3 c3, e = .returned (.slice (some ⟨b3, o3, none⟩) sh c3) ∧ w'.cell? ⟨b3, o3 + k, none⟩ = some (.bool true) ∧ Below w1.heap.size w1 w') := fun w1 hb => by
    refine (gK la lc l sh n _ (HL.out.below hb) (hp n hn)).mono ?_
    rintro e w2 ⟨a, c, rfl, hbs, hb2⟩
    have hL := bY sh (aL (aJ l n))
    obtain ⟨b3, o3, rfl, _, d3⟩ := hbs k (by rw [hL]; exact hk)
    refine ⟨b3, o3, c, by rw [hL], ?_, hb2⟩
    exact d3.trans (congrArg (fun x => some (Value.bool x)) HP.out)
   obtain ⟨b6, o6, b7, o7, c7, e6, _, _, z6, z7⟩ := HS.out.wr.rows hF.wr hF.wn h0 n hn
   have z7 := z7 k hk
   rw [eQ] at z7
   rw [e6, hF.wr] at q2
   have KS : Hid (∀ w', Below W.heap.size W w' → w'.cell? ⟨w.heap.size, 0, none⟩ = some (.int .i64 (sh : Int)) ∧ w'.cell? ⟨w.heap.size, 1, none⟩ = some (.slice la l.length lc) ∧ w'.cell? ⟨w.heap.size + 1, 0, none⟩ = some (.slice sa S.st.length sc) ∧ w'.cell? ⟨w.heap.size + 1, 1, none⟩ = some (.slice ra S.rd.length rc) ∧ w'.cell? ⟨w.heap.size + 1, 2, none⟩ = some (.slice (some ⟨b6, o6, none⟩) l.length tc) ∧ w'.cell? ⟨w.heap.size + 1, 3, none⟩ = some (.slice va S.vs.length vc) ∧ w'.cell? ⟨w.heap.size + 2, 1, none⟩ = some (.int .i64 (n : Int)) ∧ w'.cell? ⟨w.heap.size + 2, 2, none⟩ = some (.int .i64 (k : Int)) ∧ w'.cell? ⟨b6, o6 + n, none⟩ = some (.slice (some ⟨b7, o7, none⟩) sh c7) ∧ w'.cell? ⟨b7, o7 + k, none⟩ = some (.bool false) ∧ Hid (Below W.heap.size W w')) := fun w' hb => ⟨aA hb p0, aA hb p1, aA hb q0, aA hb q1, aA hb q2, aA hb q3, aA hb r1, aA hb r2, aA hb z6, aA hb z7, hb⟩
   have CR : Hid (∀ w1, Below W.heap.size W w1 → Calls Tryz.prog 55 #[.agg #[.int .i64 (sh : Int), .slice la l.length lc], .agg #[.slice sa S.st.length sc, .slice ra S.rd.length rc, .slice (some ⟨b6, o6, none⟩) l.length tc, .slice va S.vs.length vc], .int .i64 n] w1 fun e w' => e = .returned (.bool RR) ∧ Below w1.heap.size w1 w') := fun w1 hb => by
    rw [HRR.out]
    have h := oR la lc l sa ra wa va sc rc tc vc S sh n w1 (HL.out.below hb) (HS.out.below hb) (hp n hn) hF hn h8 h0 h4
    rw [e6, hF.wr] at h
    exact h
   clear HP HS HL hF hp KEEP h8 h4 h0 p0 p1 q0 q1 q2 q3 r0 r1 r2 z6 z7 e6
   clear HRR
   refine wp_region_held_drew (S := (fun w' => w'.cell? ⟨w.heap.size, 0, none⟩ = some (.int .i64 (sh : Int)) ∧ w'.cell? ⟨w.heap.size, 1, none⟩ = some (.slice la l.length lc) ∧ w'.cell? ⟨w.heap.size + 1, 0, none⟩ = some (.slice sa S.st.length sc) ∧ w'.cell? ⟨w.heap.size + 1, 1, none⟩ = some (.slice ra S.rd.length rc) ∧ w'.cell? ⟨w.heap.size + 1, 2, none⟩ = some (.slice (some ⟨b6, o6, none⟩) l.length tc) ∧ w'.cell? ⟨w.heap.size + 1, 3, none⟩ = some (.slice va S.vs.length vc) ∧ w'.cell? ⟨w.heap.size + 2, 1, none⟩ = some (.int .i64 (n : Int)) ∧ w'.cell? ⟨w.heap.size + 2, 2, none⟩ = some (.int .i64 (k : Int)) ∧ w'.cell? ⟨b6, o6 + n, none⟩ = some (.slice (some ⟨b7, o7, none⟩) sh c7) ∧ w'.cell? ⟨b7, o7 + k, none⟩ = some (.bool false) ∧ Hid (Below W.heap.size W w'))) (by kernel_rfl) ?_ (fun hHeld => ?_)
   ·refine KS.out _ ?_
    exact aD (Below.refl _ _)
   refine tk (i := 0) (oi := { dst := some 11, op := .load 24 (.tmp 3), type := 24, pos := "steps.go:63", after := #[], guard := none }) (v := ?_) rfl (by kernel_rfl) (by kernel_rfl) (by kernel_rfl) (fun _ _ _ h => h) (by rfl) (by assumption) ?_ ?_; rotate_left; focus (intro w hSw; go_simp; first | done | with_reducible rfl)
   try simp only [Act.put, List.setIfInBounds_toArray, List.set_cons_zero, List.set_cons_succ]
   refine tk (i := 1) (oi := { dst := some 12, op := .fieldAddr 48 (.tmp 5) 1, type := 0, pos := "steps.go:63", after := #[], guard := none }) (v := ?_) rfl (by kernel_rfl) (by kernel_rfl) (by kernel_rfl) (fun _ _ _ h => h) (by rfl) (by assumption) ?_ ?_; rotate_left; focus (intro w hSw; go_simp; first | done | with_reducible rfl)
   try simp only [Act.put, List.setIfInBounds_toArray, List.set_cons_zero, List.set_cons_succ]
   refine tk (i := 2) (oi := { dst := some 13, op := .load 3 (.tmp 12), type := 3, pos := "steps.go:63", after := #[{ on := 1, ground := .data }], guard := none }) (v := ?_) rfl (by kernel_rfl) (by kernel_rfl) (by kernel_rfl) (fun _ _ _ h => h) (by rfl) (by assumption) ?_ ?_; rotate_left; focus (intro w hSw; go_simp; first | done | with_reducible rfl)
   try simp only [Act.put, List.setIfInBounds_toArray, List.set_cons_zero, List.set_cons_succ]
   refine tk (i := 4) (oi := { dst := some 15, op := .fieldAddr 48 (.tmp 5) 2, type := 0, pos := "steps.go:63", after := #[], guard := none }) (v := ?_) rfl (by kernel_rfl) (by kernel_rfl) (by kernel_rfl) (fun _ _ _ h => h) (by rfl) (by assumption) ?_ ?_; rotate_left; focus (intro w hSw; go_simp; first | done | with_reducible rfl)
   try simp only [Act.put, List.setIfInBounds_toArray, List.set_cons_zero, List.set_cons_succ]
   refine tk (i := 5) (oi := { dst := some 16, op := .load 3 (.tmp 15), type := 3, pos := "steps.go:63", after := #[{ on := 4, ground := .data }], guard := none }) (v := ?_) rfl (by kernel_rfl) (by kernel_rfl) (by kernel_rfl) (fun _ _ _ h => h) (by rfl) (by assumption) ?_ ?_; rotate_left; focus (intro w hSw; go_simp; first | done | with_reducible rfl)
   try simp only [Act.put, List.setIfInBounds_toArray, List.set_cons_zero, List.set_cons_succ]
   refine wpAnyH_ready (rs := [3]) (by kernel_rfl) (by simp) ?_
   refine AllReadyH.cons (o := { dst := some 14, op := .call { callee := .value (.func 54), args := #[.tmp 11, .tmp 13], argTypes := #[24, 3] }, type := 65, pos := "steps.go:63", after := #[{ on := 0, ground := .data }, { on := 2, ground := .data }], guard := none }) rfl (fun K hK => ?_) AllReadyH.nil
   go_simp
   go_wp2_with (go_at_call 54; refine (CA.out _ (aD (Below.refl _ _))).mono ?_; rintro e w1 ⟨b3, o3, c3, rfl, d3, hb1⟩)
   have BW : Hid (Below W.heap.size W w1) := aC (aD (Below.refl _ _)) hb1
   clear hHeld
   refine hK.out _ _ (KS.out _ BW.out) (fun hHeld => ?_)
   clear hK K
   refine tk (i := 6) (oi := { dst := some 17, op := .indexAddr 65 (.tmp 14) (.tmp 16), type := 0, pos := "steps.go:63", after := #[{ on := 3, ground := .data }, { on := 5, ground := .data }], guard := none }) (v := ?_) rfl (by kernel_rfl) (by kernel_rfl) (by kernel_rfl) (fun _ _ _ h => h) (by rfl) (by assumption) ?_ ?_; rotate_left; focus (intro w hSw; go_simp; first | done | with_reducible rfl)
   try simp only [Act.put, List.setIfInBounds_toArray, List.set_cons_zero, List.set_cons_succ]
   refine wpAnyH_ready (rs := [7]) (by kernel_rfl) (by simp) ?_
   refine AllReadyH.cons (o := { dst := some 18, op := .load 4 (.tmp 17), type := 4, pos := "steps.go:63", after := #[{ on := 6, ground := .data }], guard := none }) rfl (fun K hK => ?_) AllReadyH.nil
   go_simp
   skip
   clear hHeld
   refine hK.out _ _ (KS.out _ BW.out) (fun hHeld => ?_)
   clear hK K
   refine tk (i := 8) (oi := { dst := some 19, op := .move (.tmp 18), type := 4, pos := "steps.go:63", after := #[{ on := 7, ground := .data }, { on := 3, ground := .chain }], guard := none }) (v := ?_) rfl (by kernel_rfl) (by kernel_rfl) (by kernel_rfl) (fun _ _ _ h => h) (by rfl) (by assumption) ?_ ?_; rotate_left; focus (intro w hSw; go_simp; first | done | with_reducible rfl)
   try simp only [Act.put, List.setIfInBounds_toArray, List.set_cons_zero, List.set_cons_succ]
   refine tk (i := 9) (oi := { dst := some 20, op := .fieldAddr 29 (.tmp 4) 2, type := 0, pos := "steps.go:63", after := #[{ on := 8, ground := .guard }], guard := some (8, true) }) (v := ?_) rfl (by kernel_rfl) (by kernel_rfl) (by kernel_rfl) (fun _ _ _ h => h) (by rfl) (by assumption) ?_ ?_; rotate_left; focus (intro w hSw; go_simp; first | done | with_reducible rfl)
   try simp only [Act.put, List.setIfInBounds_toArray, List.set_cons_zero, List.set_cons_succ]
   refine tk (i := 10) (oi := { dst := some 21, op := .load 26 (.tmp 20), type := 26, pos := "steps.go:63", after := #[{ on := 9, ground := .data }, { on := 8, ground := .guard }], guard := some (8, true) }) (v := ?_) rfl (by kernel_rfl) (by kernel_rfl) (by kernel_rfl) (fun _ _ _ h => h) (by rfl) (by assumption) ?_ ?_; rotate_left; focus (intro w hSw; go_simp; first | done | with_reducible rfl)
   try simp only [Act.put, List.setIfInBounds_toArray, List.set_cons_zero, List.set_cons_succ]
   refine tk (i := 11) (oi := { dst := some 22, op := .fieldAddr 48 (.tmp 5) 1, type := 0, pos := "steps.go:63", after := #[{ on := 8, ground := .guard }], guard := some (8, true) }) (v := ?_) rfl (by kernel_rfl) (by kernel_rfl) (by kernel_rfl) (fun _ _ _ h => h) (by rfl) (by assumption) ?_ ?_; rotate_left; focus (intro w hSw; go_simp; first | done | with_reducible rfl)
   try simp only [Act.put, List.setIfInBounds_toArray, List.set_cons_zero, List.set_cons_succ]
   refine tk (i := 12) (oi := { dst := some 23, op := .load 3 (.tmp 22), type := 3, pos := "steps.go:63", after := #[{ on := 11, ground := .data }, { on := 8, ground := .guard }], guard := some (8, true) }) (v := ?_) rfl (by kernel_rfl) (by kernel_rfl) (by kernel_rfl) (fun _ _ _ h => h) (by rfl) (by assumption) ?_ ?_; rotate_left; focus (intro w hSw; go_simp; first | done | with_reducible rfl)
   try simp only [Act.put, List.setIfInBounds_toArray, List.set_cons_zero, List.set_cons_succ]
   refine tk (i := 13) (oi := { dst := some 24, op := .indexAddr 26 (.tmp 21) (.tmp 23), type := 0, pos := "steps.go:63", after := #[{ on := 10, ground := .data }, { on := 12, ground := .data }, { on := 8, ground := .guard }], guard := some (8, true) }) (v := ?_) rfl (by kernel_rfl) (by kernel_rfl) (by kernel_rfl) (fun _ _ _ h => h) (by rfl) (by assumption) ?_ ?_; rotate_left; focus (intro w hSw; go_simp; first | done | with_reducible rfl)
   try simp only [Act.put, List.setIfInBounds_toArray, List.set_cons_zero, List.set_cons_succ]
   refine tk (i := 14) (oi := { dst := some 25, op := .load 65 (.tmp 24), type := 65, pos := "steps.go:63", after := #[{ on := 13, ground := .data }, { on := 8, ground := .guard }], guard := some (8, true) }) (v := ?_) rfl (by kernel_rfl) (by kernel_rfl) (by kernel_rfl) (fun _ _ _ h => h) (by rfl) (by assumption) ?_ ?_; rotate_left; focus (intro w hSw; go_simp; first | done | with_reducible rfl)
   try simp only [Act.put, List.setIfInBounds_toArray, List.set_cons_zero, List.set_cons_succ]
   refine tk (i := 15) (oi := { dst := some 26, op := .fieldAddr 48 (.tmp 5) 2, type := 0, pos := "steps.go:63", after := #[{ on := 8, ground := .guard }], guard := some (8, true) }) (v := ?_) rfl (by kernel_rfl) (by kernel_rfl) (by kernel_rfl) (fun _ _ _ h => h) (by rfl) (by assumption) ?_ ?_; rotate_left; focus (intro w hSw; go_simp; first | done | with_reducible rfl)
   try simp only [Act.put, List.setIfInBounds_toArray, List.set_cons_zero, List.set_cons_succ]
   refine tk (i := 16) (oi := { dst := some 27, op := .load 3 (.tmp 26), type := 3, pos := "steps.go:63", after := #[{ on := 15, ground := .data }, { on := 8, ground := .guard }], guard := some (8, true) }) (v := ?_) rfl (by kernel_rfl) (by kernel_rfl) (by kernel_rfl) (fun _ _ _ h => h) (by rfl) (by assumption) ?_ ?_; rotate_left; focus (intro w hSw; go_simp; first | done | with_reducible rfl)
   try simp only [Act.put, List.setIfInBounds_toArray, List.set_cons_zero, List.set_cons_succ]
   refine tk (i := 17) (oi := { dst := some 28, op := .indexAddr 65 (.tmp 25) (.tmp 27), type := 0, pos := "steps.go:63", after := #[{ on := 14, ground := .data }, { on := 16, ground := .data }, { on := 8, ground := .guard }], guard := some (8, true) }) (v := ?_) rfl (by kernel_rfl) (by kernel_rfl) (by kernel_rfl) (fun _ _ _ h => h) (by rfl) (by assumption) ?_ ?_; rotate_left; focus (intro w hSw; go_simp; first | done | with_reducible rfl)
   try simp only [Act.put, List.setIfInBounds_toArray, List.set_cons_zero, List.set_cons_succ]
   refine tk (i := 18) (oi := { dst := some 29, op := .load 4 (.tmp 28), type := 4, pos := "steps.go:63", after := #[{ on := 17, ground := .data }, { on := 8, ground := .guard }], guard := some (8, true) }) (v := ?_) rfl (by kernel_rfl) (by kernel_rfl) (by kernel_rfl) (fun _ _ _ h => h) (by rfl) (by assumption) ?_ ?_; rotate_left; focus (intro w hSw; go_simp; first | done | with_reducible rfl)
   try simp only [Act.put, List.setIfInBounds_toArray, List.set_cons_zero, List.set_cons_succ]
   refine tk (i := 19) (oi := { dst := some 30, op := .unOp .not 4 (.tmp 29), type := 4, pos := "steps.go:63", after := #[{ on := 18, ground := .data }, { on := 8, ground := .guard }], guard := some (8, true) }) (v := ?_) rfl (by kernel_rfl) (by kernel_rfl) (by kernel_rfl) (fun _ _ _ h => h) (by rfl) (by assumption) ?_ ?_; rotate_left; focus (intro w hSw; go_simp; first | done | with_reducible rfl)
   try simp only [Act.put, List.setIfInBounds_toArray, List.set_cons_zero, List.set_cons_succ]
   refine tk (i := 20) (oi := { dst := some 31, op := .pick (.tmp 19) (.tmp 30) (.const (.bool false)), type := 4, pos := "steps.go:63", after := #[{ on := 8, ground := .data }, { on := 19, ground := .data }], guard := none }) (v := ?_) rfl (by kernel_rfl) (by kernel_rfl) (by kernel_rfl) (fun _ _ _ h => h) (by rfl) (by assumption) ?_ ?_; rotate_left; focus (intro w hSw; go_simp; first | done | with_reducible rfl)
   try simp only [Act.put, List.setIfInBounds_toArray, List.set_cons_zero, List.set_cons_succ]
   refine tk (i := 21) (oi := { dst := some 32, op := .move (.tmp 31), type := 4, pos := "steps.go:63", after := #[{ on := 20, ground := .data }, { on := 8, ground := .chain }], guard := none }) (v := ?_) rfl (by kernel_rfl) (by kernel_rfl) (by kernel_rfl) (fun _ _ _ h => h) (by rfl) (by assumption) ?_ ?_; rotate_left; focus (intro w hSw; go_simp; first | done | with_reducible rfl)
   try simp only [Act.put, List.setIfInBounds_toArray, List.set_cons_zero, List.set_cons_succ]
   refine tk (i := 22) (oi := { dst := some 33, op := .load 24 (.tmp 3), type := 24, pos := "steps.go:63", after := #[{ on := 21, ground := .guard }], guard := some (21, true) }) (v := ?_) rfl (by kernel_rfl) (by kernel_rfl) (by kernel_rfl) (fun _ _ _ h => h) (by rfl) (by assumption) ?_ ?_; rotate_left; focus (intro w hSw; go_simp; first | done | with_reducible rfl)
   try simp only [Act.put, List.setIfInBounds_toArray, List.set_cons_zero, List.set_cons_succ]
   refine tk (i := 23) (oi := { dst := some 34, op := .load 29 (.tmp 4), type := 29, pos := "steps.go:63", after := #[{ on := 21, ground := .guard }], guard := some (21, true) }) (v := ?_) rfl (by kernel_rfl) (by kernel_rfl) (by kernel_rfl) (fun _ _ _ h => h) (by rfl) (by assumption) ?_ ?_; rotate_left; focus (intro w hSw; go_simp; first | done | with_reducible rfl)
   try simp only [Act.put, List.setIfInBounds_toArray, List.set_cons_zero, List.set_cons_succ]
   refine tk (i := 24) (oi := { dst := some 35, op := .fieldAddr 48 (.tmp 5) 1, type := 0, pos := "steps.go:63", after := #[{ on := 21, ground := .guard }], guard := some (21, true) }) (v := ?_) rfl (by kernel_rfl) (by kernel_rfl) (by kernel_rfl) (fun _ _ _ h => h) (by rfl) (by assumption) ?_ ?_; rotate_left; focus (intro w hSw; go_simp; first | done | with_reducible rfl)
   try simp only [Act.put, List.setIfInBounds_toArray, List.set_cons_zero, List.set_cons_succ]
   refine tk (i := 25) (oi := { dst := some 36, op := .load 3 (.tmp 35), type := 3, pos := "steps.go:63", after := #[{ on := 24, ground := .data }, { on := 21, ground := .guard }], guard := some (21, true) }) (v := ?_) rfl (by kernel_rfl) (by kernel_rfl) (by kernel_rfl) (fun _ _ _ h => h) (by rfl) (by assumption) ?_ ?_; rotate_left; focus (intro w hSw; go_simp; first | done | with_reducible rfl)
   try simp only [Act.put, List.setIfInBounds_toArray, List.set_cons_zero, List.set_cons_succ]
   refine wpAnyH_ready (rs := [26]) (by kernel_rfl) (by simp) ?_
   refine AllReadyH.cons (o := { dst := some 37, op := .call { callee := .value (.func 55), args := #[.tmp 33, .tmp 34, .tmp 36], argTypes := #[24, 29, 3] }, type := 4, pos := "steps.go:63", after := #[{ on := 22, ground := .data }, { on := 23, ground := .data }, { on := 25, ground := .data }, { on := 21, ground := .chain }, { on := 21, ground := .guard }], guard := some (21, true) }) rfl (fun K hK => ?_) AllReadyH.nil
   go_simp
   go_wp2_with (go_at_call 55; refine (CR.out _ BW.out).mono ?_; rintro e w2 ⟨rfl, hb2⟩)
   have BW2 : Hid (Below W.heap.size W w2) := aC BW.out hb2
   clear hHeld
   refine hK.out _ _ (KS.out _ BW2.out) (fun hHeld => ?_)
   clear hK K
   refine tk (i := 27) (oi := { dst := some 38, op := .pick (.tmp 32) (.tmp 37) (.const (.bool false)), type := 4, pos := "steps.go:63", after := #[{ on := 21, ground := .data }, { on := 26, ground := .data }], guard := none }) (v := ?_) rfl (by kernel_rfl) (by kernel_rfl) (by kernel_rfl) (fun _ _ _ h => h) (by rfl) (by assumption) ?_ ?_; rotate_left; focus (intro w hSw; go_simp; first | done | with_reducible rfl)
   try simp only [Act.put, List.setIfInBounds_toArray, List.set_cons_zero, List.set_cons_succ]
   refine tk (i := 28) (oi := { dst := some 6, op := .assign (.tmp 38), type := 4, pos := "steps.go:63", after := #[{ on := 27, ground := .data }, { on := 26, ground := .chain }, { on := 0, ground := .phase }, { on := 1, ground := .phase }, { on := 2, ground := .phase }, { on := 3, ground := .phase }, { on := 4, ground := .phase }, { on := 5, ground := .phase }, { on := 6, ground := .phase }, { on := 7, ground := .phase }, { on := 8, ground := .phase }, { on := 9, ground := .phase }, { on := 10, ground := .phase }, { on := 11, ground := .phase }, { on := 12, ground := .phase }, { on := 13, ground := .phase }, { on := 14, ground := .phase }, { on := 15, ground := .phase }, { on := 16, ground := .phase }, { on := 17, ground := .phase }, { on := 18, ground := .phase }, { on := 19, ground := .phase }, { on := 20, ground := .phase }, { on := 21, ground := .phase }, { on := 22, ground := .phase }, { on := 23, ground := .phase }, { on := 24, ground := .phase }, { on := 25, ground := .phase }, { on := 26, ground := .phase }, { on := 27, ground := .phase }], guard := none }) (v := ?_) rfl (by kernel_rfl) (by kernel_rfl) (by kernel_rfl) (fun _ _ _ h => h) (by rfl) (by assumption) ?_ ?_; rotate_left; focus (intro w hSw; go_simp; first | done | with_reducible rfl)
   try simp only [Act.put, List.setIfInBounds_toArray, List.set_cons_zero, List.set_cons_succ]
   refine wpAnyH_done (by kernel_rfl) ?_ _
   go_wp2
   go_ret
   exact ⟨rfl, aC hW.out BW2.out⟩
set_option maxHeartbeats 20000000 in
theorem docMay_read (sh n k : Nat) (w : World) (hl : IsTxs w la l) (hs : Sta w sa ra wa va S) (hp : ∀ a, a < l.length → pnE sh l a = 0) (hF : Form sh l S) (hn : n < l.length) (h8 : l.length ≤ 8) (hk : k < sh) (h4 : sh ≤ 4) :
  Calls Tryz.prog 65 #[.agg #[.int .i64 (sh : Int), .slice la l.length lc], .agg #[.slice sa S.st.length sc, .slice ra S.rd.length rc, .slice wa S.wr.length tc, .slice va S.vs.length vc], .agg #[.int .i64 1, .int .i64 n, .int .i64 k]] w fun e w' => e = .returned (.bool (dP sh l S 1 n k)) ∧ Below w.heap.size w w' := by
 have h0 : 0 < sh := by omega
 obtain ⟨W, hWe⟩ : ∃ W : World, W = (((w.alloc (.cells #[.int .i64 (sh : Int), .slice la l.length lc] 24)).alloc (.cells #[.slice sa S.st.length sc, .slice ra S.rd.length rc, .slice wa S.wr.length tc, .slice va S.vs.length vc] 29)).alloc (.cells #[.int .i64 1, .int .i64 (n : Int), .int .i64 (k : Int)] 48)) := ⟨_, rfl⟩
 have hW : Hid (Below w.heap.size w W) := by subst hWe; exact (aB (aB (aB (Below.refl _ _) _) _) _)
 have p0 : W.cell? ⟨w.heap.size, 0, none⟩ = some (.int .i64 (sh : Int)) := by subst hWe; exact aA (aB (aB (Below.refl _ _) _) _) (aE _ _ 24 _ 0 _ (by first | rfl | simp) rfl)
 have p1 : W.cell? ⟨w.heap.size, 1, none⟩ = some (.slice la l.length lc) := by subst hWe; exact aA (aB (aB (Below.refl _ _) _) _) (aE _ _ 24 _ 1 _ (by first | rfl | simp) rfl)
 have q0 : W.cell? ⟨w.heap.size + 1, 0, none⟩ = some (.slice sa S.st.length sc) := by subst hWe; exact aA (aB (Below.refl _ _) _) (aE _ _ 29 _ 0 _ (by first | rfl | simp) rfl)
 have q1 : W.cell? ⟨w.heap.size + 1, 1, none⟩ = some (.slice ra S.rd.length rc) := by subst hWe; exact aA (aB (Below.refl _ _) _) (aE _ _ 29 _ 1 _ (by first | rfl | simp) rfl)
 have q2 : W.cell? ⟨w.heap.size + 1, 2, none⟩ = some (.slice wa S.wr.length tc) := by subst hWe; exact aA (aB (Below.refl _ _) _) (aE _ _ 29 _ 2 _ (by first | rfl | simp) rfl)
 have q3 : W.cell? ⟨w.heap.size + 1, 3, none⟩ = some (.slice va S.vs.length vc) := by subst hWe; exact aA (aB (Below.refl _ _) _) (aE _ _ 29 _ 3 _ (by first | rfl | simp) rfl)
 have r0 : W.cell? ⟨w.heap.size + 2, 0, none⟩ = some (.int .i64 1) := by subst hWe; exact aA (Below.refl _ _) (aE _ _ 48 _ 0 _ (by first | rfl | simp) rfl)
 have r1 : W.cell? ⟨w.heap.size + 2, 1, none⟩ = some (.int .i64 (n : Int)) := by subst hWe; exact aA (Below.refl _ _) (aE _ _ 48 _ 1 _ (by first | rfl | simp) rfl)
 have r2 : W.cell? ⟨w.heap.size + 2, 2, none⟩ = some (.int .i64 (k : Int)) := by subst hWe; exact aA (Below.refl _ _) (aE _ _ 48 _ 2 _ (by first | rfl | simp) rfl)
 have KEEP : Hid (∀ w', Below W.heap.size W w' → w'.cell? ⟨w.heap.size, 0, none⟩ = some (.int .i64 (sh : Int)) ∧ w'.cell? ⟨w.heap.size, 1, none⟩ = some (.slice la l.length lc) ∧ w'.cell? ⟨w.heap.size + 1, 0, none⟩ = some (.slice sa S.st.length sc) ∧ w'.cell? ⟨w.heap.size + 1, 1, none⟩ = some (.slice ra S.rd.length rc) ∧ w'.cell? ⟨w.heap.size + 1, 2, none⟩ = some (.slice wa S.wr.length tc) ∧ w'.cell? ⟨w.heap.size + 1, 3, none⟩ = some (.slice va S.vs.length vc) ∧ w'.cell? ⟨w.heap.size + 2, 0, none⟩ = some (.int .i64 1) ∧ w'.cell? ⟨w.heap.size + 2, 1, none⟩ = some (.int .i64 (n : Int)) ∧ w'.cell? ⟨w.heap.size + 2, 2, none⟩ = some (.int .i64 (k : Int))) := fun w' hb => ⟨aA hb p0, aA hb p1, aA hb q0, aA hb q1, aA hb q2, aA hb q3, aA hb r0, aA hb r1, aA hb r2⟩
 have HS : Hid (Sta W sa ra wa va S) := hs.below hW.out
 have HL : Hid (IsTxs W la l) := hl.below hW.out
 have HM : Hid (dP sh l S 1 n k = (fE sh (gX l n) k && !bW S.rd n k && !iN sh l S n k)) := rfl
 generalize dP sh l S 1 n k = RR at *
 clear hl hs p0 p1 q0 q1 q2 q3 r0 r1 r2
 have HWe : Hid (W = _) := hWe
 clear hWe
 go_enter Tryz.func65, Tryz.ntmps65
 go_upto_region 1 with fail
 rw [← HWe.out]
 clear HWe
 obtain ⟨p0, p1, q0, q1, q2, q3, r0, r1, r2⟩ := KEEP.out W (Below.refl _ _)
 go_upto_region 3 with fail
 cases eP : fE sh (gX l n) k with
 | false =>
  have HP : Hid (fE sh (gX l n) k = false) := eP
  obtain rfl : RR = false := by rw [HM.out, eP]; rfl
  clear HM
  have CA : Hid (∀ w1, Below W.heap.size W w1 → Calls Tryz.prog 53 #[.agg #[.int .i64 sh, .slice la l.length lc], .int .i64 n] w1 fun e w' => ∃ b3 o3 c3, e = .returned (.slice (some ⟨b3, o3, none⟩) sh c3) ∧ w'.cell? ⟨b3, o3 + k, none⟩ = some (.bool false) ∧ Below w1.heap.size w1 w') := fun w1 hb => by
   refine (iQ la lc l sh n _ (HL.out.below hb) (hp n hn)).mono ?_
   rintro e w2 ⟨a, c, rfl, hbs, hb2⟩
   have hL := bY sh (aM (aJ l n))
   obtain ⟨b3, o3, rfl, _, d3⟩ := hbs k (by rw [hL]; exact hk)
   refine ⟨b3, o3, c, by rw [hL], ?_, hb2⟩
   exact d3.trans (congrArg (fun x => some (Value.bool x)) HP.out)
  have KS : Hid (∀ w', Below W.heap.size W w' → w'.cell? ⟨w.heap.size, 0, none⟩ = some (.int .i64 (sh : Int)) ∧ w'.cell? ⟨w.heap.size, 1, none⟩ = some (.slice la l.length lc) ∧ w'.cell? ⟨w.heap.size + 2, 1, none⟩ = some (.int .i64 (n : Int)) ∧ w'.cell? ⟨w.heap.size + 2, 2, none⟩ = some (.int .i64 (k : Int)) ∧ Hid (Below W.heap.size W w')) := fun w' hb => ⟨aA hb p0, aA hb p1, aA hb r1, aA hb r2, hb⟩
  clear HP HS HL hF hp KEEP h8 h4 h0 p0 p1 q0 q1 q2 q3 r0 r1 r2
  refine wp_region_held_drew (S := (fun w' => w'.cell? ⟨w.heap.size, 0, none⟩ = some (.int .i64 (sh : Int)) ∧ w'.cell? ⟨w.heap.size, 1, none⟩ = some (.slice la l.length lc) ∧ w'.cell? ⟨w.heap.size + 2, 1, none⟩ = some (.int .i64 (n : Int)) ∧ w'.cell? ⟨w.heap.size + 2, 2, none⟩ = some (.int .i64 (k : Int)) ∧ Hid (Below W.heap.size W w'))) (by kernel_rfl) ?_ (fun hHeld => ?_)
  ·refine KS.out _ ?_
   exact aD (Below.refl _ _)
  refine tk (i := 0) (oi := { dst := some 39, op := .load 24 (.tmp 3), type := 24, pos := "steps.go:65", after := #[], guard := none }) (v := ?_) rfl (by kernel_rfl) (by kernel_rfl) (by kernel_rfl) (fun _ _ _ h => h) (by rfl) (by assumption) ?_ ?_; rotate_left; focus (intro w hSw; go_simp; first | done | with_reducible rfl)
  try simp only [Act.put, List.setIfInBounds_toArray, List.set_cons_zero, List.set_cons_succ]
  refine tk (i := 1) (oi := { dst := some 40, op := .fieldAddr 48 (.tmp 5) 1, type := 0, pos := "steps.go:65", after := #[], guard := none }) (v := ?_) rfl (by kernel_rfl) (by kernel_rfl) (by kernel_rfl) (fun _ _ _ h => h) (by rfl) (by assumption) ?_ ?_; rotate_left; focus (intro w hSw; go_simp; first | done | with_reducible rfl)
  try simp only [Act.put, List.setIfInBounds_toArray, List.set_cons_zero, List.set_cons_succ]
  refine tk (i := 2) (oi := { dst := some 41, op := .load 3 (.tmp 40), type := 3, pos := "steps.go:65", after := #[{ on := 1, ground := .data }], guard := none }) (v := ?_) rfl (by kernel_rfl) (by kernel_rfl) (by kernel_rfl) (fun _ _ _ h => h) (by rfl) (by assumption) ?_ ?_; rotate_left; focus (intro w hSw; go_simp; first | done | with_reducible rfl)
  try simp only [Act.put, List.setIfInBounds_toArray, List.set_cons_zero, List.set_cons_succ]
  refine tk (i := 4) (oi := { dst := some 43, op := .fieldAddr 48 (.tmp 5) 2, type := 0, pos := "steps.go:65", after := #[], guard := none }) (v := ?_) rfl (by kernel_rfl) (by kernel_rfl) (by kernel_rfl) (fun _ _ _ h => h) (by rfl) (by assumption) ?_ ?_; rotate_left; focus (intro w hSw; go_simp; first | done | with_reducible rfl)
  try simp only [Act.put, List.setIfInBounds_toArray, List.set_cons_zero, List.set_cons_succ]
  refine tk (i := 5) (oi := { dst := some 44, op := .load 3 (.tmp 43), type := 3, pos := "steps.go:65", after := #[{ on := 4, ground := .data }], guard := none }) (v := ?_) rfl (by kernel_rfl) (by kernel_rfl) (by kernel_rfl) (fun _ _ _ h => h) (by rfl) (by assumption) ?_ ?_; rotate_left; focus (intro w hSw; go_simp; first | done | with_reducible rfl)
  try simp only [Act.put, List.setIfInBounds_toArray, List.set_cons_zero, List.set_cons_succ]
  refine wpAnyH_ready (rs := [3]) (by kernel_rfl) (by simp) ?_
  refine AllReadyH.cons (o := { dst := some 42, op := .call { callee := .value (.func 53), args := #[.tmp 39, .tmp 41], argTypes := #[24, 3] }, type := 65, pos := "steps.go:65", after := #[{ on := 0, ground := .data }, { on := 2, ground := .data }], guard := none }) rfl (fun K hK => ?_) AllReadyH.nil
  go_simp
  go_wp2_with (go_at_call 53; refine (CA.out _ (aD (Below.refl _ _))).mono ?_; rintro e w1 ⟨b3, o3, c3, rfl, d3, hb1⟩)
  have BW : Hid (Below W.heap.size W w1) := aC (aD (Below.refl _ _)) hb1
  clear hHeld
  refine hK.out _ _ (KS.out _ BW.out) (fun hHeld => ?_)
  clear hK K
  refine tk (i := 6) (oi := { dst := some 45, op := .indexAddr 65 (.tmp 42) (.tmp 44), type := 0, pos := "steps.go:65", after := #[{ on := 3, ground := .data }, { on := 5, ground := .data }], guard := none }) (v := ?_) rfl (by kernel_rfl) (by kernel_rfl) (by kernel_rfl) (fun _ _ _ h => h) (by rfl) (by assumption) ?_ ?_; rotate_left; focus (intro w hSw; go_simp; first | done | with_reducible rfl)
  try simp only [Act.put, List.setIfInBounds_toArray, List.set_cons_zero, List.set_cons_succ]
  refine wpAnyH_ready (rs := [7]) (by kernel_rfl) (by simp) ?_
  refine AllReadyH.cons (o := { dst := some 46, op := .load 4 (.tmp 45), type := 4, pos := "steps.go:65", after := #[{ on := 6, ground := .data }], guard := none }) rfl (fun K hK => ?_) AllReadyH.nil
  go_simp
  skip
  clear hHeld
  refine hK.out _ _ (KS.out _ BW.out) (fun hHeld => ?_)
  clear hK K
  refine tk (i := 8) (oi := { dst := some 47, op := .unOp .not 4 (.tmp 46), type := 4, pos := "steps.go:65", after := #[{ on := 7, ground := .data }], guard := none }) (v := ?_) rfl (by kernel_rfl) (by kernel_rfl) (by kernel_rfl) (fun _ _ _ h => h) (by rfl) (by assumption) ?_ ?_; rotate_left; focus (intro w hSw; go_simp; first | done | with_reducible rfl)
  try simp only [Act.put, List.setIfInBounds_toArray, List.set_cons_zero, List.set_cons_succ]
  refine tk (i := 9) (oi := { dst := some 48, op := .move (.tmp 47), type := 4, pos := "steps.go:65", after := #[{ on := 8, ground := .data }, { on := 3, ground := .chain }], guard := none }) (v := ?_) rfl (by kernel_rfl) (by kernel_rfl) (by kernel_rfl) (fun _ _ _ h => h) (by rfl) (by assumption) ?_ ?_; rotate_left; focus (intro w hSw; go_simp; first | done | with_reducible rfl)
  try simp only [Act.put, List.setIfInBounds_toArray, List.set_cons_zero, List.set_cons_succ]
  refine wpAnyH_take (i := 10) (oi := { dst := some 49, op := .fieldAddr 29 (.tmp 4) 1, type := 0, pos := "steps.go:65", after := #[{ on := 9, ground := .guard }], guard := some (9, false) }) (v := undef) rfl (by kernel_rfl) (by kernel_rfl) (by kernel_rfl) (fun _ _ _ h => h) (Or.inr ⟨by rfl, rfl⟩) (by assumption) ?_
  try simp only [Act.put, List.setIfInBounds_toArray, List.set_cons_zero, List.set_cons_succ]
  refine wpAnyH_take (i := 11) (oi := { dst := some 50, op := .load 26 (.tmp 49), type := 26, pos := "steps.go:65", after := #[{ on := 10, ground := .data }, { on := 9, ground := .guard }], guard := some (9, false) }) (v := undef) rfl (by kernel_rfl) (by kernel_rfl) (by kernel_rfl) (fun _ _ _ h => h) (Or.inr ⟨by rfl, rfl⟩) (by assumption) ?_
  try simp only [Act.put, List.setIfInBounds_toArray, List.set_cons_zero, List.set_cons_succ]
  refine wpAnyH_take (i := 12) (oi := { dst := some 51, op := .fieldAddr 48 (.tmp 5) 1, type := 0, pos := "steps.go:65", after := #[{ on := 9, ground := .guard }], guard := some (9, false) }) (v := undef) rfl (by kernel_rfl) (by kernel_rfl) (by kernel_rfl) (fun _ _ _ h => h) (Or.inr ⟨by rfl, rfl⟩) (by assumption) ?_
  try simp only [Act.put, List.setIfInBounds_toArray, List.set_cons_zero, List.set_cons_succ]
  refine wpAnyH_take (i := 13) (oi := { dst := some 52, op := .load 3 (.tmp 51), type := 3, pos := "steps.go:65", after := #[{ on := 12, ground := .data }, { on := 9, ground := .guard }], guard := some (9, false) }) (v := undef) rfl (by kernel_rfl) (by kernel_rfl) (by kernel_rfl) (fun _ _ _ h => h) (Or.inr ⟨by rfl, rfl⟩) (by assumption) ?_
  try simp only [Act.put, List.setIfInBounds_toArray, List.set_cons_zero, List.set_cons_succ]
  refine wpAnyH_take (i := 14) (oi := { dst := some 53, op := .indexAddr 26 (.tmp 50) (.tmp 52), type := 0, pos := "steps.go:65", after := #[{ on := 11, ground := .data }, { on := 13, ground := .data }, { on := 9, ground := .guard }], guard := some (9, false) }) (v := undef) rfl (by kernel_rfl) (by kernel_rfl) (by kernel_rfl) (fun _ _ _ h => h) (Or.inr ⟨by rfl, rfl⟩) (by assumption) ?_
  try simp only [Act.put, List.setIfInBounds_toArray, List.set_cons_zero, List.set_cons_succ]
  refine wpAnyH_take (i := 15) (oi := { dst := some 54, op := .load 65 (.tmp 53), type := 65, pos := "steps.go:65", after := #[{ on := 14, ground := .data }, { on := 9, ground := .guard }], guard := some (9, false) }) (v := undef) rfl (by kernel_rfl) (by kernel_rfl) (by kernel_rfl) (fun _ _ _ h => h) (Or.inr ⟨by rfl, rfl⟩) (by assumption) ?_
  try simp only [Act.put, List.setIfInBounds_toArray, List.set_cons_zero, List.set_cons_succ]
  refine wpAnyH_take (i := 16) (oi := { dst := some 55, op := .fieldAddr 48 (.tmp 5) 2, type := 0, pos := "steps.go:65", after := #[{ on := 9, ground := .guard }], guard := some (9, false) }) (v := undef) rfl (by kernel_rfl) (by kernel_rfl) (by kernel_rfl) (fun _ _ _ h => h) (Or.inr ⟨by rfl, rfl⟩) (by assumption) ?_
  try simp only [Act.put, List.setIfInBounds_toArray, List.set_cons_zero, List.set_cons_succ]
  refine wpAnyH_take (i := 17) (oi := { dst := some 56, op := .load 3 (.tmp 55), type := 3, pos := "steps.go:65", after := #[{ on := 16, ground := .data }, { on := 9, ground := .guard }], guard := some (9, false) }) (v := undef) rfl (by kernel_rfl) (by kernel_rfl) (by kernel_rfl) (fun _ _ _ h => h) (Or.inr ⟨by rfl, rfl⟩) (by assumption) ?_
  try simp only [Act.put, List.setIfInBounds_toArray, List.set_cons_zero, List.set_cons_succ]
  refine wpAnyH_take (i := 18) (oi := { dst := some 57, op := .indexAddr 65 (.tmp 54) (.tmp 56), type := 0, pos := "steps.go:65", after := #[{ on := 15, ground := .data }, { on := 17, ground := .data }, { on := 9, ground := .guard }], guard := some (9, false) }) (v := undef) rfl (by kernel_rfl) (by kernel_rfl) (by kernel_rfl) (fun _ _ _ h => h) (Or.inr ⟨by rfl, rfl⟩) (by assumption) ?_
  try simp only [Act.put, List.setIfInBounds_toArray, List.set_cons_zero, List.set_cons_succ]
  refine wpAnyH_take (i := 19) (oi := { dst := some 58, op := .load 4 (.tmp 57), type := 4, pos := "steps.go:65", after := #[{ on := 18, ground := .data }, { on := 9, ground := .guard }], guard := some (9, false) }) (v := undef) rfl (by kernel_rfl) (by kernel_rfl) (by kernel_rfl) (fun _ _ _ h => h) (Or.inr ⟨by rfl, rfl⟩) (by assumption) ?_
  try simp only [Act.put, List.setIfInBounds_toArray, List.set_cons_zero, List.set_cons_succ]
  refine tk (i := 20) (oi := { dst := some 59, op := .pick (.tmp 48) (.const (.bool true)) (.tmp 58), type := 4, pos := "steps.go:65", after := #[{ on := 9, ground := .data }, { on := 19, ground := .data }], guard := none }) (v := ?_) rfl (by kernel_rfl) (by kernel_rfl) (by kernel_rfl) (fun _ _ _ h => h) (by rfl) (by assumption) ?_ ?_; rotate_left; focus (intro w hSw; go_simp; first | done | with_reducible rfl)
  try simp only [Act.put, List.setIfInBounds_toArray, List.set_cons_zero, List.set_cons_succ]
  refine wpAnyH_done (by kernel_rfl) ?_ _
  go_wp2
  go_ret
  exact ⟨rfl, aC hW.out BW.out⟩
 | true =>
  have HP : Hid (fE sh (gX l n) k = true) := eP
  obtain ⟨Q, eQ⟩ : ∃ Q, bW S.rd n k = Q := ⟨_, rfl⟩
  have HM2 : Hid (RR = (!Q && !iN sh l S n k)) := by show _ = _; rw [HM.out, eP, eQ]; rfl
  clear HM
  have CA : Hid (∀ w1, Below W.heap.size W w1 → Calls Tryz.prog 53 #[.agg #[.int .i64 sh, .slice la l.length lc], .int .i64 n] w1 fun e w' => ∃ b3 o3 c3, e = .returned (.slice (some ⟨b3, o3, none⟩) sh c3) ∧ w'.cell? ⟨b3, o3 + k, none⟩ = some (.bool true) ∧ Below w1.heap.size w1 w') := fun w1 hb => by
   refine (iQ la lc l sh n _ (HL.out.below hb) (hp n hn)).mono ?_
   rintro e w2 ⟨a, c, rfl, hbs, hb2⟩
   have hL := bY sh (aM (aJ l n))
   obtain ⟨b3, o3, rfl, _, d3⟩ := hbs k (by rw [hL]; exact hk)
   refine ⟨b3, o3, c, by rw [hL], ?_, hb2⟩
   exact d3.trans (congrArg (fun x => some (Value.bool x)) HP.out)
  obtain ⟨b6, o6, b7, o7, c7, e6, _, _, z6, z7⟩ := HS.out.rd.rows hF.rd hF.rn h0 n hn
  have z7 := z7 k hk
  rw [eQ] at z7
  rw [e6, hF.rd] at q1
  have KS : Hid (∀ w', Below W.heap.size W w' → w'.cell? ⟨w.heap.size, 0, none⟩ = some (.int .i64 (sh : Int)) ∧ w'.cell? ⟨w.heap.size, 1, none⟩ = some (.slice la l.length lc) ∧ w'.cell? ⟨w.heap.size + 1, 1, none⟩ = some (.slice (some ⟨b6, o6, none⟩) l.length rc) ∧ w'.cell? ⟨w.heap.size + 2, 1, none⟩ = some (.int .i64 (n : Int)) ∧ w'.cell? ⟨w.heap.size + 2, 2, none⟩ = some (.int .i64 (k : Int)) ∧ w'.cell? ⟨b6, o6 + n, none⟩ = some (.slice (some ⟨b7, o7, none⟩) sh c7) ∧ w'.cell? ⟨b7, o7 + k, none⟩ = some (.bool Q) ∧ Hid (Below W.heap.size W w')) := fun w' hb => ⟨aA hb p0, aA hb p1, aA hb q1, aA hb r1, aA hb r2, aA hb z6, aA hb z7, hb⟩
  have RES : Hid (∀ w1, Below W.heap.size W w1 → Below w.heap.size w w1) := fun w1 hb => aC hW.out hb
  go_cut [59] (fun u wx => u = .bool Q ∧ Hid (Below W.heap.size W wx))
  case first =>
   clear HP HS HL hF hp KEEP h8 h4 h0 p0 p1 q0 q1 q2 q3 r0 r1 r2 z6 z7 e6
   refine wp_region_held_drew (S := (fun w' => w'.cell? ⟨w.heap.size, 0, none⟩ = some (.int .i64 (sh : Int)) ∧ w'.cell? ⟨w.heap.size, 1, none⟩ = some (.slice la l.length lc) ∧ w'.cell? ⟨w.heap.size + 1, 1, none⟩ = some (.slice (some ⟨b6, o6, none⟩) l.length rc) ∧ w'.cell? ⟨w.heap.size + 2, 1, none⟩ = some (.int .i64 (n : Int)) ∧ w'.cell? ⟨w.heap.size + 2, 2, none⟩ = some (.int .i64 (k : Int)) ∧ w'.cell? ⟨b6, o6 + n, none⟩ = some (.slice (some ⟨b7, o7, none⟩) sh c7) ∧ w'.cell? ⟨b7, o7 + k, none⟩ = some (.bool Q) ∧ Hid (Below W.heap.size W w'))) (by kernel_rfl) ?_ (fun hHeld => ?_)
   ·refine KS.out _ ?_
    exact aD (Below.refl _ _)
   refine tk (i := 0) (oi := { dst := some 39, op := .load 24 (.tmp 3), type := 24, pos := "steps.go:65", after := #[], guard := none }) (v := ?_) rfl (by kernel_rfl) (by kernel_rfl) (by kernel_rfl) (fun _ _ _ h => h) (by rfl) (by assumption) ?_ ?_; rotate_left; focus (intro w hSw; go_simp; first | done | with_reducible rfl)
   try simp only [Act.put, List.setIfInBounds_toArray, List.set_cons_zero, List.set_cons_succ]
   refine tk (i := 1) (oi := { dst := some 40, op := .fieldAddr 48 (.tmp 5) 1, type := 0, pos := "steps.go:65", after := #[], guard := none }) (v := ?_) rfl (by kernel_rfl) (by kernel_rfl) (by kernel_rfl) (fun _ _ _ h => h) (by rfl) (by assumption) ?_ ?_; rotate_left; focus (intro w hSw; go_simp; first | done | with_reducible rfl)
   try simp only [Act.put, List.setIfInBounds_toArray, List.set_cons_zero, List.set_cons_succ]
   refine tk (i := 2) (oi := { dst := some 41, op := .load 3 (.tmp 40), type := 3, pos := "steps.go:65", after := #[{ on := 1, ground := .data }], guard := none }) (v := ?_) rfl (by kernel_rfl) (by kernel_rfl) (by kernel_rfl) (fun _ _ _ h => h) (by rfl) (by assumption) ?_ ?_; rotate_left; focus (intro w hSw; go_simp; first | done | with_reducible rfl)
   try simp only [Act.put, List.setIfInBounds_toArray, List.set_cons_zero, List.set_cons_succ]
   refine tk (i := 4) (oi := { dst := some 43, op := .fieldAddr 48 (.tmp 5) 2, type := 0, pos := "steps.go:65", after := #[], guard := none }) (v := ?_) rfl (by kernel_rfl) (by kernel_rfl) (by kernel_rfl) (fun _ _ _ h => h) (by rfl) (by assumption) ?_ ?_; rotate_left; focus (intro w hSw; go_simp; first | done | with_reducible rfl)
   try simp only [Act.put, List.setIfInBounds_toArray, List.set_cons_zero, List.set_cons_succ]
   refine tk (i := 5) (oi := { dst := some 44, op := .load 3 (.tmp 43), type := 3, pos := "steps.go:65", after := #[{ on := 4, ground := .data }], guard := none }) (v := ?_) rfl (by kernel_rfl) (by kernel_rfl) (by kernel_rfl) (fun _ _ _ h => h) (by rfl) (by assumption) ?_ ?_; rotate_left; focus (intro w hSw; go_simp; first | done | with_reducible rfl)
   try simp only [Act.put, List.setIfInBounds_toArray, List.set_cons_zero, List.set_cons_succ]
   refine wpAnyH_ready (rs := [3]) (by kernel_rfl) (by simp) ?_
   refine AllReadyH.cons (o := { dst := some 42, op := .call { callee := .value (.func 53), args := #[.tmp 39, .tmp 41], argTypes := #[24, 3] }, type := 65, pos := "steps.go:65", after := #[{ on := 0, ground := .data }, { on := 2, ground := .data }], guard := none }) rfl (fun K hK => ?_) AllReadyH.nil
   go_simp
   go_wp2_with (go_at_call 53; refine (CA.out _ (aD (Below.refl _ _))).mono ?_; rintro e w1 ⟨b3, o3, c3, rfl, d3, hb1⟩)
   have BW : Hid (Below W.heap.size W w1) := aC (aD (Below.refl _ _)) hb1
   clear hHeld
   refine hK.out _ _ (KS.out _ BW.out) (fun hHeld => ?_)
   clear hK K
   refine tk (i := 6) (oi := { dst := some 45, op := .indexAddr 65 (.tmp 42) (.tmp 44), type := 0, pos := "steps.go:65", after := #[{ on := 3, ground := .data }, { on := 5, ground := .data }], guard := none }) (v := ?_) rfl (by kernel_rfl) (by kernel_rfl) (by kernel_rfl) (fun _ _ _ h => h) (by rfl) (by assumption) ?_ ?_; rotate_left; focus (intro w hSw; go_simp; first | done | with_reducible rfl)
   try simp only [Act.put, List.setIfInBounds_toArray, List.set_cons_zero, List.set_cons_succ]
   refine wpAnyH_ready (rs := [7]) (by kernel_rfl) (by simp) ?_
   refine AllReadyH.cons (o := { dst := some 46, op := .load 4 (.tmp 45), type := 4, pos := "steps.go:65", after := #[{ on := 6, ground := .data }], guard := none }) rfl (fun K hK => ?_) AllReadyH.nil
   go_simp
   skip
   clear hHeld
   refine hK.out _ _ (KS.out _ BW.out) (fun hHeld => ?_)
   clear hK K
   refine tk (i := 8) (oi := { dst := some 47, op := .unOp .not 4 (.tmp 46), type := 4, pos := "steps.go:65", after := #[{ on := 7, ground := .data }], guard := none }) (v := ?_) rfl (by kernel_rfl) (by kernel_rfl) (by kernel_rfl) (fun _ _ _ h => h) (by rfl) (by assumption) ?_ ?_; rotate_left; focus (intro w hSw; go_simp; first | done | with_reducible rfl)
   try simp only [Act.put, List.setIfInBounds_toArray, List.set_cons_zero, List.set_cons_succ]
   refine tk (i := 9) (oi := { dst := some 48, op := .move (.tmp 47), type := 4, pos := "steps.go:65", after := #[{ on := 8, ground := .data }, { on := 3, ground := .chain }], guard := none }) (v := ?_) rfl (by kernel_rfl) (by kernel_rfl) (by kernel_rfl) (fun _ _ _ h => h) (by rfl) (by assumption) ?_ ?_; rotate_left; focus (intro w hSw; go_simp; first | done | with_reducible rfl)
   try simp only [Act.put, List.setIfInBounds_toArray, List.set_cons_zero, List.set_cons_succ]
   refine tk (i := 10) (oi := { dst := some 49, op := .fieldAddr 29 (.tmp 4) 1, type := 0, pos := "steps.go:65", after := #[{ on := 9, ground := .guard }], guard := some (9, false) }) (v := ?_) rfl (by kernel_rfl) (by kernel_rfl) (by kernel_rfl) (fun _ _ _ h => h) (by rfl) (by assumption) ?_ ?_; rotate_left; focus (intro w hSw; go_simp; first | done | with_reducible rfl)
   try simp only [Act.put, List.setIfInBounds_toArray, List.set_cons_zero, List.set_cons_succ]
   refine tk (i := 11) (oi := { dst := some 50, op := .load 26 (.tmp 49), type := 26, pos := "steps.go:65", after := #[{ on := 10, ground := .data }, { on := 9, ground := .guard }], guard := some (9, false) }) (v := ?_) rfl (by kernel_rfl) (by kernel_rfl) (by kernel_rfl) (fun _ _ _ h => h) (by rfl) (by assumption) ?_ ?_; rotate_left; focus (intro w hSw; go_simp; first | done | with_reducible rfl)
   try simp only [Act.put, List.setIfInBounds_toArray, List.set_cons_zero, List.set_cons_succ]
   refine tk (i := 12) (oi := { dst := some 51, op := .fieldAddr 48 (.tmp 5) 1, type := 0, pos := "steps.go:65", after := #[{ on := 9, ground := .guard }], guard := some (9, false) }) (v := ?_) rfl (by kernel_rfl) (by kernel_rfl) (by kernel_rfl) (fun _ _ _ h => h) (by rfl) (by assumption) ?_ ?_; rotate_left; focus (intro w hSw; go_simp; first | done | with_reducible rfl)
   try simp only [Act.put, List.setIfInBounds_toArray, List.set_cons_zero, List.set_cons_succ]
   refine tk (i := 13) (oi := { dst := some 52, op := .load 3 (.tmp 51), type := 3, pos := "steps.go:65", after := #[{ on := 12, ground := .data }, { on := 9, ground := .guard }], guard := some (9, false) }) (v := ?_) rfl (by kernel_rfl) (by kernel_rfl) (by kernel_rfl) (fun _ _ _ h => h) (by rfl) (by assumption) ?_ ?_; rotate_left; focus (intro w hSw; go_simp; first | done | with_reducible rfl)
   try simp only [Act.put, List.setIfInBounds_toArray, List.set_cons_zero, List.set_cons_succ]
   refine tk (i := 14) (oi := { dst := some 53, op := .indexAddr 26 (.tmp 50) (.tmp 52), type := 0, pos := "steps.go:65", after := #[{ on := 11, ground := .data }, { on := 13, ground := .data }, { on := 9, ground := .guard }], guard := some (9, false) }) (v := ?_) rfl (by kernel_rfl) (by kernel_rfl) (by kernel_rfl) (fun _ _ _ h => h) (by rfl) (by assumption) ?_ ?_; rotate_left; focus (intro w hSw; go_simp; first | done | with_reducible rfl)
   try simp only [Act.put, List.setIfInBounds_toArray, List.set_cons_zero, List.set_cons_succ]
   refine tk (i := 15) (oi := { dst := some 54, op := .load 65 (.tmp 53), type := 65, pos := "steps.go:65", after := #[{ on := 14, ground := .data }, { on := 9, ground := .guard }], guard := some (9, false) }) (v := ?_) rfl (by kernel_rfl) (by kernel_rfl) (by kernel_rfl) (fun _ _ _ h => h) (by rfl) (by assumption) ?_ ?_; rotate_left; focus (intro w hSw; go_simp; first | done | with_reducible rfl)
   try simp only [Act.put, List.setIfInBounds_toArray, List.set_cons_zero, List.set_cons_succ]
   refine tk (i := 16) (oi := { dst := some 55, op := .fieldAddr 48 (.tmp 5) 2, type := 0, pos := "steps.go:65", after := #[{ on := 9, ground := .guard }], guard := some (9, false) }) (v := ?_) rfl (by kernel_rfl) (by kernel_rfl) (by kernel_rfl) (fun _ _ _ h => h) (by rfl) (by assumption) ?_ ?_; rotate_left; focus (intro w hSw; go_simp; first | done | with_reducible rfl)
   try simp only [Act.put, List.setIfInBounds_toArray, List.set_cons_zero, List.set_cons_succ]
   refine tk (i := 17) (oi := { dst := some 56, op := .load 3 (.tmp 55), type := 3, pos := "steps.go:65", after := #[{ on := 16, ground := .data }, { on := 9, ground := .guard }], guard := some (9, false) }) (v := ?_) rfl (by kernel_rfl) (by kernel_rfl) (by kernel_rfl) (fun _ _ _ h => h) (by rfl) (by assumption) ?_ ?_; rotate_left; focus (intro w hSw; go_simp; first | done | with_reducible rfl)
   try simp only [Act.put, List.setIfInBounds_toArray, List.set_cons_zero, List.set_cons_succ]
   refine tk (i := 18) (oi := { dst := some 57, op := .indexAddr 65 (.tmp 54) (.tmp 56), type := 0, pos := "steps.go:65", after := #[{ on := 15, ground := .data }, { on := 17, ground := .data }, { on := 9, ground := .guard }], guard := some (9, false) }) (v := ?_) rfl (by kernel_rfl) (by kernel_rfl) (by kernel_rfl) (fun _ _ _ h => h) (by rfl) (by assumption) ?_ ?_; rotate_left; focus (intro w hSw; go_simp; first | done | with_reducible rfl)
   try simp only [Act.put, List.setIfInBounds_toArray, List.set_cons_zero, List.set_cons_succ]
   refine tk (i := 19) (oi := { dst := some 58, op := .load 4 (.tmp 57), type := 4, pos := "steps.go:65", after := #[{ on := 18, ground := .data }, { on := 9, ground := .guard }], guard := some (9, false) }) (v := ?_) rfl (by kernel_rfl) (by kernel_rfl) (by kernel_rfl) (fun _ _ _ h => h) (by rfl) (by assumption) ?_ ?_; rotate_left; focus (intro w hSw; go_simp; first | done | with_reducible rfl)
   try simp only [Act.put, List.setIfInBounds_toArray, List.set_cons_zero, List.set_cons_succ]
   refine tk (i := 20) (oi := { dst := some 59, op := .pick (.tmp 48) (.const (.bool true)) (.tmp 58), type := 4, pos := "steps.go:65", after := #[{ on := 9, ground := .data }, { on := 19, ground := .data }], guard := none }) (v := ?_) rfl (by kernel_rfl) (by kernel_rfl) (by kernel_rfl) (fun _ _ _ h => h) (by rfl) (by assumption) ?_ ?_; rotate_left; focus (intro w hSw; go_simp; first | done | with_reducible rfl)
   try simp only [Act.put, List.setIfInBounds_toArray, List.set_cons_zero, List.set_cons_succ]
   refine wpAnyH_done (by kernel_rfl) ?_ _
   go_wp2_with fail
   go_meet
   exact ⟨rfl, BW⟩
  case rest =>
   obtain ⟨rfl, hbc⟩ := hcut
   obtain ⟨V, hren⟩ : ∃ V : World, V = wc := ⟨_, rfl⟩
   subst hren
   have BV : Hid (Below W.heap.size W V) := hbc
   clear hbc KS CA p0 p1 q0 q1 q2 q3 r0 r1 r2 z6 z7 e6
   cases Q with
   | true =>
    obtain rfl : RR = false := HM2.out
    have BF : Hid (Below w.heap.size w V) := RES.out V BV.out
    go_wp2
    go_ret
    exact ⟨rfl, BF.out⟩
   | false =>
    have CG : Hid (∀ a, a < n → ∀ w1, Below W.heap.size W w1 → Calls Tryz.prog 61 #[.agg #[.int .i64 (sh : Int), .slice la l.length lc], .agg #[.slice sa S.st.length sc, .slice ra S.rd.length rc, .slice wa S.wr.length tc, .slice va S.vs.length vc], .int .i64 a, .int .i64 k] w1 fun e w' => e = .returned (.bool (aU sh l S a k)) ∧ Below w1.heap.size w1 w') := fun a ha w1 hb => nB la lc l sa ra wa va sc rc tc vc S sh a k w1 (HL.out.below hb) (HS.out.below hb) (hp a (by omega)) hF (by omega) hk h4
    have CL : Hid (∀ a, a < n → ∀ w1, Below W.heap.size W w1 → ∃ b off, la = some ⟨b, off, none⟩ ∧ w1.cell? ⟨b, off + a * 3, none⟩ = some (.slice (l.getD a x0).ra (l.getD a x0).rs.length (l.getD a x0).rc) ∧ w1.cell? ⟨b, off + a * 3 + 1, none⟩ = some (.slice (l.getD a x0).ga (l.getD a x0).gs.length (l.getD a x0).gc) ∧ w1.cell? ⟨b, off + a * 3 + 2, none⟩ = some (.slice (l.getD a x0).sa (l.getD a x0).ss.length (l.getD a x0).sc) ∧ w1.cell? ⟨b, off + n * 3, none⟩ = some (.slice (l.getD n x0).ra (l.getD n x0).rs.length (l.getD n x0).rc) ∧ w1.cell? ⟨b, off + n * 3 + 1, none⟩ = some (.slice (l.getD n x0).ga (l.getD n x0).gs.length (l.getD n x0).gc) ∧ w1.cell? ⟨b, off + n * 3 + 2, none⟩ = some (.slice (l.getD n x0).sa (l.getD n x0).ss.length (l.getD n x0).sc) ∧ ∀ w2, Below w1.heap.size w1 w2 → Calls Tryz.prog 107 #[.agg #[.slice (l.getD a x0).ra (l.getD a x0).rs.length (l.getD a x0).rc, .slice (l.getD a x0).ga (l.getD a x0).gs.length (l.getD a x0).gc, .slice (l.getD a x0).sa (l.getD a x0).ss.length (l.getD a x0).sc], .agg #[.slice (l.getD n x0).ra (l.getD n x0).rs.length (l.getD n x0).rc, .slice (l.getD n x0).ga (l.getD n x0).gs.length (l.getD n x0).gc, .slice (l.getD n x0).sa (l.getD n x0).ss.length (l.getD n x0).sc], .int .i64 sh, .int .i64 k] w2 fun e w' => e = .returned (.bool (lU sh (gX l a) (gX l n) k)) ∧ Below w2.heap.size w2 w') := fun a ha w1 hb => by
     obtain ⟨b, off, e1, _, c0, c1, c2, hx⟩ := (HL.out.below hb) a (by omega)
     obtain ⟨b', off', e2, _, d0, d1, d2, hy⟩ := (HL.out.below hb) n hn
     rw [e1] at e2
     cases e2
     exact ⟨b, off, e1, c0, c1, c2, d0, d1, d2, fun w2 hb2 => docClash_sh _ _ sh k h0 h4 w2 (hx.below hb2) (hy.below hb2)⟩
    have hn8 : n < 8 := by omega
    have hsh4 : sh ≤ 4 := h4
    have HB : Hid (∀ a, iA sh l S n k (a + 1) = (iA sh l S n k a || (!aU sh l S a k && lU sh (gX l a) (gX l n) k))) := fun a => by
     show _ = _
     unfold iA
     rw [List.range_succ, List.any_append]
     simp
    have HBS : Hid (∀ a, a < n → (!aU sh l S a k && lU sh (gX l a) (gX l n) k) = true → iN sh l S n k = true) := fun a ha h => by
     unfold iN iA
     rw [List.any_eq_true]
     exact ⟨a, List.mem_range.2 ha, h⟩
    have HBE : Hid (iA sh l S n k n = false → iN sh l S n k = false) := fun h => h
    clear HS HL hp hF HP
    generalize iN sh l S n k = R at *
    have HM3 : Hid (RR = !R) := HM2.out
    clear HM2
    go_wp2
    go_loopw [7] (fun i wr => ∃ a : Nat, a ≤ n ∧ i = .int .i64 a ∧ Hid (iA sh l S n k a = false) ∧ Hid (Below W.heap.size W wr)) (fun i _ => n - (intOf i).toNat)
    case atStart => exact ⟨0, Nat.zero_le _, rfl, rfl, BV⟩
    case round =>
     clear BV
     obtain ⟨a, ha, rfl, hT, BV⟩ := hrel
     obtain ⟨p0, p1, q0, q1, q2, q3, r0, r1, r2⟩ := KEEP.out wr BV.out
     by_cases hlt : a < n
     ·have i1 : (a : Int) < (n : Int) := by omega
      have hal : a < l.length := Nat.lt_trans hlt hn
      have hst := HB.out a
      have hsp := HBS.out a hlt
      rw [hT.out, Bool.false_or] at hst
      have CG1 := CG.out a hlt
      obtain ⟨tb, tof, eTl, c0, c1, c2, d0, d1, d2, CL1⟩ := CL.out a hlt wr BV.out
      subst eTl
      have CLH : Hid (∀ w2, Below wr.heap.size wr w2 → Calls Tryz.prog 107 #[.agg #[.slice (l.getD a x0).ra (l.getD a x0).rs.length (l.getD a x0).rc, .slice (l.getD a x0).ga (l.getD a x0).gs.length (l.getD a x0).gc, .slice (l.getD a x0).sa (l.getD a x0).ss.length (l.getD a x0).sc], .agg #[.slice (l.getD n x0).ra (l.getD n x0).rs.length (l.getD n x0).rc, .slice (l.getD n x0).ga (l.getD n x0).gs.length (l.getD n x0).gc, .slice (l.getD n x0).sa (l.getD n x0).ss.length (l.getD n x0).sc], .int .i64 sh, .int .i64 k] w2 fun e w' => e = .returned (.bool (lU sh (gX l a) (gX l n) k)) ∧ Below w2.heap.size w2 w') := CL1
      have CGH : Hid (∀ w1, Below wr.heap.size wr w1 → Calls Tryz.prog 61 #[.agg #[.int .i64 (sh : Int), .slice (some ⟨tb, tof, none⟩) l.length lc], .agg #[.slice sa S.st.length sc, .slice ra S.rd.length rc, .slice wa S.wr.length tc, .slice va S.vs.length vc], .int .i64 a, .int .i64 k] w1 fun e w' => e = .returned (.bool (aU sh l S a k)) ∧ Below w1.heap.size w1 w') := fun w1 hb => CG1 w1 (aC BV.out hb)
      have HST : Hid (iA sh l S n k (a + 1) = (!aU sh l S a k && lU sh (gX l a) (gX l n) k)) := hst
      have HSP : Hid ((!aU sh l S a k && lU sh (gX l a) (gX l n) k) = true → R = true) := hsp
      clear CL1 CG1 hst hsp CG CL HB HBS HBE hT KEEP
      generalize aU sh l S a k = G at *
      generalize lU sh (gX l a) (gX l n) k = C at *
      generalize hxa : l.getD a x0 = xa at *
      generalize hxn : l.getD n x0 = xn at *
      go_upto_region 8 with fail
      have KS : Hid (∀ w', Below wr.heap.size wr w' → w'.cell? ⟨w.heap.size, 0, none⟩ = some (.int .i64 (sh : Int)) ∧ w'.cell? ⟨w.heap.size, 1, none⟩ = some (.slice (some ⟨tb, tof, none⟩) l.length lc) ∧ w'.cell? ⟨w.heap.size + 1, 0, none⟩ = some (.slice sa S.st.length sc) ∧ w'.cell? ⟨w.heap.size + 1, 1, none⟩ = some (.slice ra S.rd.length rc) ∧ w'.cell? ⟨w.heap.size + 1, 2, none⟩ = some (.slice wa S.wr.length tc) ∧ w'.cell? ⟨w.heap.size + 1, 3, none⟩ = some (.slice va S.vs.length vc) ∧ w'.cell? ⟨w.heap.size + 2, 1, none⟩ = some (.int .i64 (n : Int)) ∧ w'.cell? ⟨w.heap.size + 2, 2, none⟩ = some (.int .i64 (k : Int)) ∧ w'.cell? ⟨tb, tof + a * 3, none⟩ = some (.slice xa.ra xa.rs.length xa.rc) ∧ w'.cell? ⟨tb, tof + a * 3 + 1, none⟩ = some (.slice xa.ga xa.gs.length xa.gc) ∧ w'.cell? ⟨tb, tof + a * 3 + 2, none⟩ = some (.slice xa.sa xa.ss.length xa.sc) ∧ w'.cell? ⟨tb, tof + n * 3, none⟩ = some (.slice xn.ra xn.rs.length xn.rc) ∧ w'.cell? ⟨tb, tof + n * 3 + 1, none⟩ = some (.slice xn.ga xn.gs.length xn.gc) ∧ w'.cell? ⟨tb, tof + n * 3 + 2, none⟩ = some (.slice xn.sa xn.ss.length xn.sc) ∧ Hid (Below wr.heap.size wr w')) := fun w' hb => ⟨aA hb p0, aA hb p1, aA hb q0, aA hb q1, aA hb q2, aA hb q3, aA hb r1, aA hb r2, aA hb c0, aA hb c1, aA hb c2, aA hb d0, aA hb d1, aA hb d2, hb⟩
      have RES2 : Hid (∀ w1, Below wr.heap.size wr w1 → Below W.heap.size W w1) := fun w1 hb => aC BV.out hb
      clear p0 p1 q0 q1 q2 q3 r0 r1 r2 c0 c1 c2 d0 d1 d2 BV
      cases G with
      | true =>
       refine wp_region_held_drew (S := (fun w' => w'.cell? ⟨w.heap.size, 0, none⟩ = some (.int .i64 (sh : Int)) ∧ w'.cell? ⟨w.heap.size, 1, none⟩ = some (.slice (some ⟨tb, tof, none⟩) l.length lc) ∧ w'.cell? ⟨w.heap.size + 1, 0, none⟩ = some (.slice sa S.st.length sc) ∧ w'.cell? ⟨w.heap.size + 1, 1, none⟩ = some (.slice ra S.rd.length rc) ∧ w'.cell? ⟨w.heap.size + 1, 2, none⟩ = some (.slice wa S.wr.length tc) ∧ w'.cell? ⟨w.heap.size + 1, 3, none⟩ = some (.slice va S.vs.length vc) ∧ w'.cell? ⟨w.heap.size + 2, 1, none⟩ = some (.int .i64 (n : Int)) ∧ w'.cell? ⟨w.heap.size + 2, 2, none⟩ = some (.int .i64 (k : Int)) ∧ w'.cell? ⟨tb, tof + a * 3, none⟩ = some (.slice xa.ra xa.rs.length xa.rc) ∧ w'.cell? ⟨tb, tof + a * 3 + 1, none⟩ = some (.slice xa.ga xa.gs.length xa.gc) ∧ w'.cell? ⟨tb, tof + a * 3 + 2, none⟩ = some (.slice xa.sa xa.ss.length xa.sc) ∧ w'.cell? ⟨tb, tof + n * 3, none⟩ = some (.slice xn.ra xn.rs.length xn.rc) ∧ w'.cell? ⟨tb, tof + n * 3 + 1, none⟩ = some (.slice xn.ga xn.gs.length xn.gc) ∧ w'.cell? ⟨tb, tof + n * 3 + 2, none⟩ = some (.slice xn.sa xn.ss.length xn.sc) ∧ Hid (Below wr.heap.size wr w'))) (by kernel_rfl) ?_ (fun hHeld => ?_)
       ·refine KS.out _ ?_
        exact aD (Below.refl _ _)
       refine tk (i := 0) (oi := { dst := some 66, op := .load 24 (.tmp 3), type := 24, pos := "steps.go:69", after := #[], guard := none }) (v := ?_) rfl (by kernel_rfl) (by kernel_rfl) (by kernel_rfl) (fun _ _ _ h => h) (by rfl) (by assumption) ?_ ?_; rotate_left; focus (intro w hSw; go_simp; first | done | with_reducible rfl)
       try simp only [Act.put, List.setIfInBounds_toArray, List.set_cons_zero, List.set_cons_succ]
       refine tk (i := 1) (oi := { dst := some 67, op := .load 29 (.tmp 4), type := 29, pos := "steps.go:69", after := #[], guard := none }) (v := ?_) rfl (by kernel_rfl) (by kernel_rfl) (by kernel_rfl) (fun _ _ _ h => h) (by rfl) (by assumption) ?_ ?_; rotate_left; focus (intro w hSw; go_simp; first | done | with_reducible rfl)
       try simp only [Act.put, List.setIfInBounds_toArray, List.set_cons_zero, List.set_cons_succ]
       refine tk (i := 2) (oi := { dst := some 68, op := .move (.tmp 7), type := 3, pos := "steps.go:69", after := #[], guard := none }) (v := ?_) rfl (by kernel_rfl) (by kernel_rfl) (by kernel_rfl) (fun _ _ _ h => h) (by rfl) (by assumption) ?_ ?_; rotate_left; focus (intro w hSw; go_simp; first | done | with_reducible rfl)
       try simp only [Act.put, List.setIfInBounds_toArray, List.set_cons_zero, List.set_cons_succ]
       refine tk (i := 3) (oi := { dst := some 69, op := .fieldAddr 48 (.tmp 5) 2, type := 0, pos := "steps.go:69", after := #[], guard := none }) (v := ?_) rfl (by kernel_rfl) (by kernel_rfl) (by kernel_rfl) (fun _ _ _ h => h) (by rfl) (by assumption) ?_ ?_; rotate_left; focus (intro w hSw; go_simp; first | done | with_reducible rfl)
       try simp only [Act.put, List.setIfInBounds_toArray, List.set_cons_zero, List.set_cons_succ]
       refine tk (i := 4) (oi := { dst := some 70, op := .load 3 (.tmp 69), type := 3, pos := "steps.go:69", after := #[{ on := 3, ground := .data }], guard := none }) (v := ?_) rfl (by kernel_rfl) (by kernel_rfl) (by kernel_rfl) (fun _ _ _ h => h) (by rfl) (by assumption) ?_ ?_; rotate_left; focus (intro w hSw; go_simp; first | done | with_reducible rfl)
       try simp only [Act.put, List.setIfInBounds_toArray, List.set_cons_zero, List.set_cons_succ]
       refine wpAnyH_ready (rs := [5]) (by kernel_rfl) (by simp) ?_
       refine AllReadyH.cons (o := { dst := some 71, op := .call { callee := .value (.func 61), args := #[.tmp 66, .tmp 67, .tmp 68, .tmp 70], argTypes := #[24, 29, 3, 3] }, type := 4, pos := "steps.go:69", after := #[{ on := 0, ground := .data }, { on := 1, ground := .data }, { on := 2, ground := .data }, { on := 4, ground := .data }], guard := none }) rfl (fun K hK => ?_) AllReadyH.nil
       go_simp
       go_wp2_with (go_at_call 61; refine (CGH.out _ (aD (Below.refl _ _))).mono ?_; rintro e w1 ⟨rfl, hb1⟩)
       have BW : Hid (Below wr.heap.size wr w1) := aC (aD (Below.refl _ _)) hb1
       clear hHeld
       refine hK.out _ _ (KS.out _ BW.out) (fun hHeld => ?_)
       clear hK K
       refine tk (i := 6) (oi := { dst := some 72, op := .unOp .not 4 (.tmp 71), type := 4, pos := "steps.go:69", after := #[{ on := 5, ground := .data }], guard := none }) (v := ?_) rfl (by kernel_rfl) (by kernel_rfl) (by kernel_rfl) (fun _ _ _ h => h) (by rfl) (by assumption) ?_ ?_; rotate_left; focus (intro w hSw; go_simp; first | done | with_reducible rfl)
       try simp only [Act.put, List.setIfInBounds_toArray, List.set_cons_zero, List.set_cons_succ]
       refine tk (i := 7) (oi := { dst := some 73, op := .move (.tmp 72), type := 4, pos := "steps.go:69", after := #[{ on := 6, ground := .data }, { on := 5, ground := .chain }], guard := none }) (v := ?_) rfl (by kernel_rfl) (by kernel_rfl) (by kernel_rfl) (fun _ _ _ h => h) (by rfl) (by assumption) ?_ ?_; rotate_left; focus (intro w hSw; go_simp; first | done | with_reducible rfl)
       try simp only [Act.put, List.setIfInBounds_toArray, List.set_cons_zero, List.set_cons_succ]
       refine wpAnyH_take (i := 8) (oi := { dst := some 74, op := .fieldAddr 24 (.tmp 3) 1, type := 0, pos := "steps.go:69", after := #[{ on := 7, ground := .guard }], guard := some (7, true) }) (v := undef) rfl (by kernel_rfl) (by kernel_rfl) (by kernel_rfl) (fun _ _ _ h => h) (Or.inr ⟨by rfl, rfl⟩) (by assumption) ?_
       try simp only [Act.put, List.setIfInBounds_toArray, List.set_cons_zero, List.set_cons_succ]
       refine wpAnyH_take (i := 9) (oi := { dst := some 75, op := .load 22 (.tmp 74), type := 22, pos := "steps.go:69", after := #[{ on := 8, ground := .data }, { on := 7, ground := .guard }], guard := some (7, true) }) (v := undef) rfl (by kernel_rfl) (by kernel_rfl) (by kernel_rfl) (fun _ _ _ h => h) (Or.inr ⟨by rfl, rfl⟩) (by assumption) ?_
       try simp only [Act.put, List.setIfInBounds_toArray, List.set_cons_zero, List.set_cons_succ]
       refine wpAnyH_take (i := 10) (oi := { dst := some 76, op := .move (.tmp 7), type := 3, pos := "steps.go:69", after := #[{ on := 7, ground := .guard }], guard := some (7, true) }) (v := undef) rfl (by kernel_rfl) (by kernel_rfl) (by kernel_rfl) (fun _ _ _ h => h) (Or.inr ⟨by rfl, rfl⟩) (by assumption) ?_
       try simp only [Act.put, List.setIfInBounds_toArray, List.set_cons_zero, List.set_cons_succ]
       refine wpAnyH_take (i := 11) (oi := { dst := some 77, op := .indexAddr 22 (.tmp 75) (.tmp 76), type := 0, pos := "steps.go:69", after := #[{ on := 9, ground := .data }, { on := 10, ground := .data }, { on := 7, ground := .guard }], guard := some (7, true) }) (v := undef) rfl (by kernel_rfl) (by kernel_rfl) (by kernel_rfl) (fun _ _ _ h => h) (Or.inr ⟨by rfl, rfl⟩) (by assumption) ?_
       try simp only [Act.put, List.setIfInBounds_toArray, List.set_cons_zero, List.set_cons_succ]
       refine wpAnyH_take (i := 12) (oi := { dst := some 78, op := .load 79 (.tmp 77), type := 79, pos := "steps.go:69", after := #[{ on := 11, ground := .data }, { on := 7, ground := .guard }], guard := some (7, true) }) (v := undef) rfl (by kernel_rfl) (by kernel_rfl) (by kernel_rfl) (fun _ _ _ h => h) (Or.inr ⟨by rfl, rfl⟩) (by assumption) ?_
       try simp only [Act.put, List.setIfInBounds_toArray, List.set_cons_zero, List.set_cons_succ]
       refine wpAnyH_take (i := 13) (oi := { dst := some 79, op := .fieldAddr 24 (.tmp 3) 1, type := 0, pos := "steps.go:69", after := #[{ on := 7, ground := .guard }], guard := some (7, true) }) (v := undef) rfl (by kernel_rfl) (by kernel_rfl) (by kernel_rfl) (fun _ _ _ h => h) (Or.inr ⟨by rfl, rfl⟩) (by assumption) ?_
       try simp only [Act.put, List.setIfInBounds_toArray, List.set_cons_zero, List.set_cons_succ]
       refine wpAnyH_take (i := 14) (oi := { dst := some 80, op := .load 22 (.tmp 79), type := 22, pos := "steps.go:69", after := #[{ on := 13, ground := .data }, { on := 7, ground := .guard }], guard := some (7, true) }) (v := undef) rfl (by kernel_rfl) (by kernel_rfl) (by kernel_rfl) (fun _ _ _ h => h) (Or.inr ⟨by rfl, rfl⟩) (by assumption) ?_
       try simp only [Act.put, List.setIfInBounds_toArray, List.set_cons_zero, List.set_cons_succ]
       refine wpAnyH_take (i := 15) (oi := { dst := some 81, op := .fieldAddr 48 (.tmp 5) 1, type := 0, pos := "steps.go:69", after := #[{ on := 7, ground := .guard }], guard := some (7, true) }) (v := undef) rfl (by kernel_rfl) (by kernel_rfl) (by kernel_rfl) (fun _ _ _ h => h) (Or.inr ⟨by rfl, rfl⟩) (by assumption) ?_
       try simp only [Act.put, List.setIfInBounds_toArray, List.set_cons_zero, List.set_cons_succ]
       refine wpAnyH_take (i := 16) (oi := { dst := some 82, op := .load 3 (.tmp 81), type := 3, pos := "steps.go:69", after := #[{ on := 15, ground := .data }, { on := 7, ground := .guard }], guard := some (7, true) }) (v := undef) rfl (by kernel_rfl) (by kernel_rfl) (by kernel_rfl) (fun _ _ _ h => h) (Or.inr ⟨by rfl, rfl⟩) (by assumption) ?_
       try simp only [Act.put, List.setIfInBounds_toArray, List.set_cons_zero, List.set_cons_succ]
       refine wpAnyH_take (i := 17) (oi := { dst := some 83, op := .indexAddr 22 (.tmp 80) (.tmp 82), type := 0, pos := "steps.go:69", after := #[{ on := 14, ground := .data }, { on := 16, ground := .data }, { on := 7, ground := .guard }], guard := some (7, true) }) (v := undef) rfl (by kernel_rfl) (by kernel_rfl) (by kernel_rfl) (fun _ _ _ h => h) (Or.inr ⟨by rfl, rfl⟩) (by assumption) ?_
       try simp only [Act.put, List.setIfInBounds_toArray, List.set_cons_zero, List.set_cons_succ]
       refine wpAnyH_take (i := 18) (oi := { dst := some 84, op := .load 79 (.tmp 83), type := 79, pos := "steps.go:69", after := #[{ on := 17, ground := .data }, { on := 7, ground := .guard }], guard := some (7, true) }) (v := undef) rfl (by kernel_rfl) (by kernel_rfl) (by kernel_rfl) (fun _ _ _ h => h) (Or.inr ⟨by rfl, rfl⟩) (by assumption) ?_
       try simp only [Act.put, List.setIfInBounds_toArray, List.set_cons_zero, List.set_cons_succ]
       refine wpAnyH_take (i := 19) (oi := { dst := some 85, op := .fieldAddr 24 (.tmp 3) 0, type := 0, pos := "steps.go:69", after := #[{ on := 7, ground := .guard }], guard := some (7, true) }) (v := undef) rfl (by kernel_rfl) (by kernel_rfl) (by kernel_rfl) (fun _ _ _ h => h) (Or.inr ⟨by rfl, rfl⟩) (by assumption) ?_
       try simp only [Act.put, List.setIfInBounds_toArray, List.set_cons_zero, List.set_cons_succ]
       refine wpAnyH_take (i := 20) (oi := { dst := some 86, op := .load 3 (.tmp 85), type := 3, pos := "steps.go:69", after := #[{ on := 19, ground := .data }, { on := 7, ground := .guard }], guard := some (7, true) }) (v := undef) rfl (by kernel_rfl) (by kernel_rfl) (by kernel_rfl) (fun _ _ _ h => h) (Or.inr ⟨by rfl, rfl⟩) (by assumption) ?_
       try simp only [Act.put, List.setIfInBounds_toArray, List.set_cons_zero, List.set_cons_succ]
       refine wpAnyH_take (i := 21) (oi := { dst := some 87, op := .fieldAddr 48 (.tmp 5) 2, type := 0, pos := "steps.go:69", after := #[{ on := 7, ground := .guard }], guard := some (7, true) }) (v := undef) rfl (by kernel_rfl) (by kernel_rfl) (by kernel_rfl) (fun _ _ _ h => h) (Or.inr ⟨by rfl, rfl⟩) (by assumption) ?_
       try simp only [Act.put, List.setIfInBounds_toArray, List.set_cons_zero, List.set_cons_succ]
       refine wpAnyH_take (i := 22) (oi := { dst := some 88, op := .load 3 (.tmp 87), type := 3, pos := "steps.go:69", after := #[{ on := 21, ground := .data }, { on := 7, ground := .guard }], guard := some (7, true) }) (v := undef) rfl (by kernel_rfl) (by kernel_rfl) (by kernel_rfl) (fun _ _ _ h => h) (Or.inr ⟨by rfl, rfl⟩) (by assumption) ?_
       try simp only [Act.put, List.setIfInBounds_toArray, List.set_cons_zero, List.set_cons_succ]
       refine wpAnyH_take (i := 23) (oi := { dst := some 89, op := .call { callee := .value (.func 107), args := #[.tmp 78, .tmp 84, .tmp 86, .tmp 88], argTypes := #[79, 79, 3, 3] }, type := 4, pos := "steps.go:69", after := #[{ on := 12, ground := .data }, { on := 18, ground := .data }, { on := 20, ground := .data }, { on := 22, ground := .data }, { on := 7, ground := .chain }, { on := 7, ground := .guard }], guard := some (7, true) }) (v := undef) rfl (by kernel_rfl) (by kernel_rfl) (by kernel_rfl) (fun _ _ _ h => h) (Or.inr ⟨by rfl, rfl⟩) (by assumption) ?_
       try simp only [Act.put, List.setIfInBounds_toArray, List.set_cons_zero, List.set_cons_succ]
       refine tk (i := 24) (oi := { dst := some 90, op := .pick (.tmp 73) (.tmp 89) (.const (.bool false)), type := 4, pos := "steps.go:69", after := #[{ on := 7, ground := .data }, { on := 23, ground := .data }], guard := none }) (v := ?_) rfl (by kernel_rfl) (by kernel_rfl) (by kernel_rfl) (fun _ _ _ h => h) (by rfl) (by assumption) ?_ ?_; rotate_left; focus (intro w hSw; go_simp; first | done | with_reducible rfl)
       try simp only [Act.put, List.setIfInBounds_toArray, List.set_cons_zero, List.set_cons_succ]
       refine wpAnyH_done (by kernel_rfl) ?_ _
       have B1 : Hid (Below W.heap.size W w1) := RES2.out _ BW.out
       go_wp2
       go_roundw
       case rel => exact ⟨a + 1, by omega, by go_num, by show _ = _; rw [HST.out]; rfl, B1⟩
       case measure => simp [intOf]; omega
      | false =>
       go_region_held3 (fun w' => w'.cell? ⟨w.heap.size, 0, none⟩ = some (.int .i64 (sh : Int)) ∧ w'.cell? ⟨w.heap.size, 1, none⟩ = some (.slice (some ⟨tb, tof, none⟩) l.length lc) ∧ w'.cell? ⟨w.heap.size + 1, 0, none⟩ = some (.slice sa S.st.length sc) ∧ w'.cell? ⟨w.heap.size + 1, 1, none⟩ = some (.slice ra S.rd.length rc) ∧ w'.cell? ⟨w.heap.size + 1, 2, none⟩ = some (.slice wa S.wr.length tc) ∧ w'.cell? ⟨w.heap.size + 1, 3, none⟩ = some (.slice va S.vs.length vc) ∧ w'.cell? ⟨w.heap.size + 2, 1, none⟩ = some (.int .i64 (n : Int)) ∧ w'.cell? ⟨w.heap.size + 2, 2, none⟩ = some (.int .i64 (k : Int)) ∧ w'.cell? ⟨tb, tof + a * 3, none⟩ = some (.slice xa.ra xa.rs.length xa.rc) ∧ w'.cell? ⟨tb, tof + a * 3 + 1, none⟩ = some (.slice xa.ga xa.gs.length xa.gc) ∧ w'.cell? ⟨tb, tof + a * 3 + 2, none⟩ = some (.slice xa.sa xa.ss.length xa.sc) ∧ w'.cell? ⟨tb, tof + n * 3, none⟩ = some (.slice xn.ra xn.rs.length xn.rc) ∧ w'.cell? ⟨tb, tof + n * 3 + 1, none⟩ = some (.slice xn.ga xn.gs.length xn.gc) ∧ w'.cell? ⟨tb, tof + n * 3 + 2, none⟩ = some (.slice xn.sa xn.ss.length xn.sc) ∧ Hid (Below wr.heap.size wr w')) ((refine KS.out _ ?_; go_split_ands; repeat (first | assumption | exact Below.refl _ _ | exact Hid.out (by assumption) | refine aD ?_ | refine aB ?_ _ | refine aC ?_ (by assumption))))
        (first
         | (go_at_call 61; refine (CGH.out _ ?_).mono ?_; (go_split_ands; repeat (first | assumption | exact Below.refl _ _ | exact Hid.out (by assumption) | refine aD ?_ | refine aB ?_ _ | refine aC ?_ (by assumption))); rintro e w1 ⟨rfl, hb1⟩)
         | (go_at_call 107; refine (CLH.out _ ?_).mono ?_; (go_split_ands; repeat (first | assumption | exact Below.refl _ _ | exact Hid.out (by assumption) | refine aD ?_ | refine aB ?_ _ | refine aC ?_ (by assumption))); rintro e w2 ⟨rfl, hb2⟩))
       all_goals (
        go_split_ands
        have B2 : Hid (Below W.heap.size W w2) := RES2.out _ (Hid.out (by assumption))
        clear RES2 KS CGH CLH
        cases C with
        | true =>
         obtain rfl : RR = false := by rw [HM3.out, HSP.out rfl]; rfl
         have BF : Hid (Below w.heap.size w w2) := RES.out _ B2.out
         go_wp2
         go_ret
         exact ⟨rfl, BF.out⟩
        | false =>
         go_wp2
         go_roundw
         case rel => exact ⟨a + 1, by omega, by go_num, by show _ = _; rw [HST.out]; rfl, B2⟩
         case measure => simp [intOf]; omega)
     ·have hE : a = n := by omega
      subst hE
      obtain rfl : RR = true := by rw [HM3.out, HBE.out hT.out]; rfl
      have BF : Hid (Below w.heap.size w wr) := RES.out _ BV.out
      have i1 : ¬ (a : Int) < (a : Int) := by omega
      go_wp2
      go_ret
      exact ⟨rfl, BF.out⟩
end Go.Proofs.YtebjkmknhpgemaaGreat
