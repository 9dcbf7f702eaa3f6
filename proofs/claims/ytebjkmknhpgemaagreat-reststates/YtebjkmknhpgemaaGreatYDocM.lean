/-
  
  Conditions: those that each theorem states.
-/
import Derived.Test.YtebjkmknhpgemaaGreatYDocK
import Derived.WalkKit
import Derived.WalkSpells
import Derived.WalkLawsBesides
import Derived.Defers
import Derived.Recover
import Derived.ProofKit
import Derived.Deep.RegionHeld
import Derived.Deep.RegionHeld3
import Derived.Deep.RegionLaw
import Derived.Deep.DeepCutAuto
import Derived.Deep.QuietTactic
import Derived.BigQuiet
import Derived.Maps.AppendAt
import Derived.Lib.SliceRun
import Derived.Deep.AppendLies
namespace Go.Proofs.YtebjkmknhpgemaaGreat
open Go.RowKit
variable (la : Option Addr) (lc : Nat) (l : List TxA) (sa ra wa va : Option Addr) (sc rc tc vc : Nat) (S : SA)
set_option maxRecDepth 100000 in
set_option maxHeartbeats 20000000 in
/-- The document's DoOf, of a step of kind 2 that there may be. -/
theorem docDo_write (sh n k : Nat) (w : World) (hl : IsTxs w la l) (hs : Sta w sa ra wa va S) (hst : stE (sh : Int) l S = 0) (hn : n < l.length) (hk : k < sh) :
    Calls Tryz.prog 27 #[.agg #[.int .i64 (sh : Int), .slice la l.length lc], .agg #[.slice sa S.st.length sc, .slice ra S.rd.length rc, .slice wa S.wr.length tc, .slice va S.vs.length vc], .agg #[.int .i64 2, .int .i64 (n : Int), .int .i64 (k : Int)]] w fun e w' => ∃ q : Q4, e = .returned (.tuple #[.agg #[.slice q.sa q.sn q.sc, .slice q.ra q.rn q.rc, .slice q.wa q.wn q.tc, .slice q.va q.vn q.vc], .int .i64 (doE sh l S 2 n k)]) ∧ StaF w.heap.size (doS sh l S 2 n k) q w' ∧ Below w.heap.size w w' := by
  obtain ⟨sh', e, h0, h4, hc, hp, hf, _⟩ := stE_zero hst
  obtain rfl : sh = sh' := by omega
  clear e
  have h8 := chkL_len hc
  obtain ⟨W, hWe⟩ : ∃ W : World, W = ((((w.alloc (.cells #[.int .i64 (sh : Int), .slice la l.length lc] 24)).alloc (.cells #[.slice sa S.st.length sc, .slice ra S.rd.length rc, .slice wa S.wr.length tc, .slice va S.vs.length vc] 29)).alloc (.cells #[.int .i64 2, .int .i64 (n : Int), .int .i64 (k : Int)] 48)).alloc (.cells #[.slice none 0 0, .slice none 0 0, .slice none 0 0, .slice none 0 0] 29)) := ⟨_, rfl⟩
  have hW : Hid (Below w.heap.size w W) := by subst hWe; exact (grow_alloc (grow_alloc (grow_alloc (grow_alloc (Below.refl _ _) _) _) _) _)
  have sz : Hid (W.heap.size = w.heap.size + 4) := by subst hWe; show _ = _; simp
  have p0 : W.cell? ⟨w.heap.size, 0, none⟩ = some (.int .i64 (sh : Int)) := by subst hWe; exact ext_cell (grow_alloc (grow_alloc (grow_alloc (Below.refl _ _) _) _) _) (at_new _ _ 24 _ 0 _ (by first | rfl | simp) rfl)
  have p1 : W.cell? ⟨w.heap.size, 1, none⟩ = some (.slice la l.length lc) := by subst hWe; exact ext_cell (grow_alloc (grow_alloc (grow_alloc (Below.refl _ _) _) _) _) (at_new _ _ 24 _ 1 _ (by first | rfl | simp) rfl)
  have q0 : W.cell? ⟨w.heap.size + 1, 0, none⟩ = some (.slice sa S.st.length sc) := by subst hWe; exact ext_cell (grow_alloc (grow_alloc (Below.refl _ _) _) _) (at_new _ _ 29 _ 0 _ (by first | rfl | simp) rfl)
  have q1 : W.cell? ⟨w.heap.size + 1, 1, none⟩ = some (.slice ra S.rd.length rc) := by subst hWe; exact ext_cell (grow_alloc (grow_alloc (Below.refl _ _) _) _) (at_new _ _ 29 _ 1 _ (by first | rfl | simp) rfl)
  have q2 : W.cell? ⟨w.heap.size + 1, 2, none⟩ = some (.slice wa S.wr.length tc) := by subst hWe; exact ext_cell (grow_alloc (grow_alloc (Below.refl _ _) _) _) (at_new _ _ 29 _ 2 _ (by first | rfl | simp) rfl)
  have q3 : W.cell? ⟨w.heap.size + 1, 3, none⟩ = some (.slice va S.vs.length vc) := by subst hWe; exact ext_cell (grow_alloc (grow_alloc (Below.refl _ _) _) _) (at_new _ _ 29 _ 3 _ (by first | rfl | simp) rfl)
  have r0 : W.cell? ⟨w.heap.size + 2, 0, none⟩ = some (.int .i64 2) := by subst hWe; exact ext_cell (grow_alloc (Below.refl _ _) _) (at_new _ _ 48 _ 0 _ (by first | rfl | simp) rfl)
  have r1 : W.cell? ⟨w.heap.size + 2, 1, none⟩ = some (.int .i64 (n : Int)) := by subst hWe; exact ext_cell (grow_alloc (Below.refl _ _) _) (at_new _ _ 48 _ 1 _ (by first | rfl | simp) rfl)
  have r2 : W.cell? ⟨w.heap.size + 2, 2, none⟩ = some (.int .i64 (k : Int)) := by subst hWe; exact ext_cell (grow_alloc (Below.refl _ _) _) (at_new _ _ 48 _ 2 _ (by first | rfl | simp) rfl)
  have s0 : W.cell? ⟨w.heap.size + 3, 0, none⟩ = some (.slice none 0 0) := by subst hWe; exact ext_cell (Below.refl _ _) (at_new _ _ 29 _ 0 _ (by first | rfl | simp) rfl)
  have s1 : W.cell? ⟨w.heap.size + 3, 1, none⟩ = some (.slice none 0 0) := by subst hWe; exact ext_cell (Below.refl _ _) (at_new _ _ 29 _ 1 _ (by first | rfl | simp) rfl)
  have s2 : W.cell? ⟨w.heap.size + 3, 2, none⟩ = some (.slice none 0 0) := by subst hWe; exact ext_cell (Below.refl _ _) (at_new _ _ 29 _ 2 _ (by first | rfl | simp) rfl)
  have s3 : W.cell? ⟨w.heap.size + 3, 3, none⟩ = some (.slice none 0 0) := by subst hWe; exact ext_cell (Below.refl _ _) (at_new _ _ 29 _ 3 _ (by first | rfl | simp) rfl)
  have SF : Hid (∀ j, W.frozen? ⟨w.heap.size + 3, j, none⟩ = false) := by subst hWe; exact fun j => frozen_new _ _ 29 _ j (by simp)
  have KEEP : Hid (∀ w', Below W.heap.size W w' → w'.cell? ⟨w.heap.size, 0, none⟩ = some (.int .i64 (sh : Int)) ∧ w'.cell? ⟨w.heap.size, 1, none⟩ = some (.slice la l.length lc) ∧ w'.cell? ⟨w.heap.size + 1, 0, none⟩ = some (.slice sa S.st.length sc) ∧ w'.cell? ⟨w.heap.size + 1, 1, none⟩ = some (.slice ra S.rd.length rc) ∧ w'.cell? ⟨w.heap.size + 1, 2, none⟩ = some (.slice wa S.wr.length tc) ∧ w'.cell? ⟨w.heap.size + 1, 3, none⟩ = some (.slice va S.vs.length vc) ∧ w'.cell? ⟨w.heap.size + 2, 0, none⟩ = some (.int .i64 2) ∧ w'.cell? ⟨w.heap.size + 2, 1, none⟩ = some (.int .i64 (n : Int)) ∧ w'.cell? ⟨w.heap.size + 2, 2, none⟩ = some (.int .i64 (k : Int)) ∧ w'.cell? ⟨w.heap.size + 3, 0, none⟩ = some (.slice none 0 0) ∧ w'.cell? ⟨w.heap.size + 3, 1, none⟩ = some (.slice none 0 0) ∧ w'.cell? ⟨w.heap.size + 3, 2, none⟩ = some (.slice none 0 0) ∧ w'.cell? ⟨w.heap.size + 3, 3, none⟩ = some (.slice none 0 0)) := fun w' hb => ⟨ext_cell hb p0, ext_cell hb p1, ext_cell hb q0, ext_cell hb q1, ext_cell hb q2, ext_cell hb q3, ext_cell hb r0, ext_cell hb r1, ext_cell hb r2, ext_cell hb s0, ext_cell hb s1, ext_cell hb s2, ext_cell hb s3⟩
  have CK : Hid (Calls Tryz.prog 19 #[.agg #[.int .i64 (sh : Int), .slice la l.length lc], .agg #[.slice sa S.st.length sc, .slice ra S.rd.length rc, .slice wa S.wr.length tc, .slice va S.vs.length vc]] W fun e w' => e = .returned (.int .i64 (stE (sh : Int) l S)) ∧ Below W.heap.size W w') := docCheck_any la lc l sa ra wa va sc rc tc vc S (sh : Int) W (hl.below hW.out) (hs.below hW.out)
  have HL : Hid (IsTxs W la l) := hl.below hW.out
  have HS : Hid (Sta W sa ra wa va S) := hs.below hW.out
  rw [hst] at CK
  have HF : Hid (Form sh l S) := formB_iff.1 hf
  have HP : Hid (∀ a, a < l.length → pnE sh l a = 0) := fun a ha => pnE_in hp ha
  have CM : Hid (∀ w', Below W.heap.size W w' → Calls Tryz.prog 65 #[.agg #[.int .i64 (sh : Int), .slice la l.length lc], .agg #[.slice sa S.st.length sc, .slice ra S.rd.length rc, .slice wa S.wr.length tc, .slice va S.vs.length vc], .agg #[.int .i64 2, .int .i64 (n : Int), .int .i64 (k : Int)]] w' fun e w'' => e = .returned (.bool (mayB sh l S 2 n k)) ∧ Below w'.heap.size w' w'') := fun w' hb => docMay_write la lc l sa ra wa va sc rc tc vc S sh n k w' ((hl.below hW.out).below hb) ((hs.below hW.out).below hb) HP.out HF.out hn h8 hk h4
  have CD : Hid (∀ w', Below W.heap.size W w' → Calls Tryz.prog 71 #[.agg #[.int .i64 (sh : Int), .slice la l.length lc], .agg #[.slice sa S.st.length sc, .slice ra S.rd.length rc, .slice wa S.wr.length tc, .slice va S.vs.length vc], .agg #[.int .i64 2, .int .i64 (n : Int), .int .i64 (k : Int)]] w' fun e w'' => ∃ q : Q4, e = .returned (.agg #[.slice q.sa q.sn q.sc, .slice q.ra q.rn q.rc, .slice q.wa q.wn q.tc, .slice q.va q.vn q.vc]) ∧ StaF w'.heap.size (writeX sh l S n k) q w'' ∧ Below w'.heap.size w' w'') := fun w' hb => docDone_write la lc l sa ra wa va sc rc tc vc S sh n k w' ((hl.below hW.out).below hb) ((hs.below hW.out).below hb) hp HF.out hn hk
  have HEE : Hid (doE sh l S 2 n k = if acB sh (gX l n) k = true then (if at2 S.wr n k = true then 7 else if freeB sh l S 2 n k = true then 0 else 6) else 5) := by
    have e1 : doE sh l S 2 n k = stepE sh l S 2 n k := if_pos hst
    show _ = _
    rw [e1]
    exact stepE_in (kd := 2) (.inr rfl) hn hk
  have HMF : Hid (mayB sh l S 2 n k = (acB sh (gX l n) k && !at2 S.wr n k && freeB sh l S 2 n k)) := rfl
  have HNS : Hid (¬ doE sh l S 2 n k = 0 → doS sh l S 2 n k = SNil) := fun h => if_neg h
  have HRS : Hid (doE sh l S 2 n k = 0 → doS sh l S 2 n k = writeX sh l S n k) := fun h => if_pos h
  have hwa : ∀ (a b c : Int) w, Calls Tryz.prog 51 #[.int .i64 a, .int .i64 b, .int .i64 c] w fun e w' => e = .returned (.bool (decide (b ≤ a) && decide (a ≤ c))) ∧ w' = w := within_any
  have d1 : (decide ((0 : Int) ≤ (n : Int)) && decide ((n : Int) ≤ (l.length : Int) - 1)) = true := by simp; omega
  have d2 : (decide ((0 : Int) ≤ (k : Int)) && decide ((k : Int) ≤ (sh : Int) - 1)) = true := by simp; omega
  clear hl hs hst hf hp hc p0 p1 q0 q1 q2 q3 r0 r1 r2 s0 s1 s2 s3
  generalize doE sh l S 2 n k = E at *
  generalize doS sh l S 2 n k = S9 at *
  have HWe : Hid (W = _) := hWe
  clear hWe
  go_enter Tryz.func27, Tryz.ntmps27
  go_upto_region 1 with fail
  rw [← HWe.out]
  clear HWe
  obtain ⟨p0, p1, q0, q1, q2, q3, r0, r1, r2, s0, s1, s2, s3⟩ := KEEP.out W (Below.refl _ _)
  go_wp2_with fail
  refine CK.out.mono ?_
  rintro e V ⟨rfl, hbV⟩
  have BV : Hid (Below W.heap.size W V) := hbV
  clear CK hbV p0 p1 q0 q1 q2 q3 r0 r1 r2 s0 s1 s2 s3
  obtain ⟨p0, p1, q0, q1, q2, q3, r0, r1, r2, s0, s1, s2, s3⟩ := KEEP.out V BV.out
  obtain ⟨b4, o4, b5, o5, c5, e4, _, _, z4, z5⟩ := (HS.out.below BV.out).rd.rows HF.out.rd HF.out.rn h0 n hn
  have z5' := z5 k hk
  rw [e4, HF.out.rd] at q1
  clear z5
  go_upto_region 8 with (first | (go_at_call 51; refine (hwa _ _ _ _).mono ?_; rintro e w5 ⟨rfl, e5⟩; have e6 := e5.symm; subst e6; (first | rw [d1] | rw [d2])))
  go_quiet (fail)
  obtain ⟨V2, eV, BV2⟩ : ∃ V2, V.drewN nq = V2 ∧ Hid (Below W.heap.size W V2) := ⟨_, rfl, drewN_grow BV.out _⟩
  rw [eV]
  clear eV BV p0 p1 q0 q1 q2 q3 r0 r1 r2 s0 s1 s2 s3 z4 z5' e4
  go_upto_region 9 with fail
  obtain ⟨p0, p1, q0, q1, q2, q3, r0, r1, r2, s0, s1, s2, s3⟩ := KEEP.out V2 BV2.out
  have CA : Hid (∀ w1, Below V2.heap.size V2 w1 → Calls Tryz.prog 53 #[.agg #[.int .i64 sh, .slice la l.length lc], .int .i64 n] w1 fun e w' => ∃ b3 o3 c3, e = .returned (.slice (some ⟨b3, o3, none⟩) sh c3) ∧ w'.cell? ⟨b3, o3 + k, none⟩ = some (.bool (ptB sh (gX l n) k)) ∧ Below w1.heap.size w1 w') := fun w1 hb => by
    refine (partOf_any la lc l sh n _ ((HL.out.below BV2.out).below hb) (HP.out n hn)).mono ?_
    rintro e w2 ⟨a, c, rfl, hbs, hb2⟩
    have hL := marks_len sh (keysIn (locksAt l n))
    obtain ⟨b3, o3, rfl, _, d3⟩ := hbs k (by rw [hL]; exact hk)
    exact ⟨b3, o3, c, by rw [hL], d3, hb2⟩
  have KS : Hid (∀ w', Below V2.heap.size V2 w' → w'.cell? ⟨w.heap.size, 0, none⟩ = some (.int .i64 (sh : Int)) ∧ w'.cell? ⟨w.heap.size, 1, none⟩ = some (.slice la l.length lc) ∧ w'.cell? ⟨w.heap.size + 2, 1, none⟩ = some (.int .i64 (n : Int)) ∧ w'.cell? ⟨w.heap.size + 2, 2, none⟩ = some (.int .i64 (k : Int)) ∧ Hid (Below V2.heap.size V2 w')) := fun w' hb => ⟨ext_cell hb p0, ext_cell hb p1, ext_cell hb r1, ext_cell hb r2, hb⟩
  clear p0 p1 q0 q1 q2 q3 r0 r1 r2 s0 s1 s2 s3
  refine wp_region_held_drew (S := (fun w' => w'.cell? ⟨w.heap.size, 0, none⟩ = some (.int .i64 (sh : Int)) ∧ w'.cell? ⟨w.heap.size, 1, none⟩ = some (.slice la l.length lc) ∧ w'.cell? ⟨w.heap.size + 2, 1, none⟩ = some (.int .i64 (n : Int)) ∧ w'.cell? ⟨w.heap.size + 2, 2, none⟩ = some (.int .i64 (k : Int)) ∧ Hid (Below V2.heap.size V2 w'))) (by kernel_rfl) ?_ (fun hHeld => ?_)
  · refine KS.out _ ?_
    exact grow_drew (Below.refl _ _)
  refine wpAnyH_take (i := 0) (oi := { dst := some 55, op := .load 24 (.tmp 3), type := 24, pos := "steps.go:165", after := #[], guard := none }) (v := ?_) rfl (by kernel_rfl) (by kernel_rfl) (by kernel_rfl) (fun _ _ _ h => h) (Or.inl ⟨by rfl, ?_⟩) (by assumption) ?_
  rotate_left
  · intro w hSw
    go_simp
    first | done | with_reducible rfl
  try simp only [Act.put, List.setIfInBounds_toArray, List.set_cons_zero, List.set_cons_succ]
  refine wpAnyH_take (i := 1) (oi := { dst := some 56, op := .fieldAddr 48 (.tmp 5) 1, type := 0, pos := "steps.go:165", after := #[], guard := none }) (v := ?_) rfl (by kernel_rfl) (by kernel_rfl) (by kernel_rfl) (fun _ _ _ h => h) (Or.inl ⟨by rfl, ?_⟩) (by assumption) ?_
  rotate_left
  · intro w hSw
    go_simp
    first | done | with_reducible rfl
  try simp only [Act.put, List.setIfInBounds_toArray, List.set_cons_zero, List.set_cons_succ]
  refine wpAnyH_take (i := 2) (oi := { dst := some 57, op := .load 3 (.tmp 56), type := 3, pos := "steps.go:165", after := #[{ on := 1, ground := .data }], guard := none }) (v := ?_) rfl (by kernel_rfl) (by kernel_rfl) (by kernel_rfl) (fun _ _ _ h => h) (Or.inl ⟨by rfl, ?_⟩) (by assumption) ?_
  rotate_left
  · intro w hSw
    go_simp
    first | done | with_reducible rfl
  try simp only [Act.put, List.setIfInBounds_toArray, List.set_cons_zero, List.set_cons_succ]
  refine wpAnyH_take (i := 4) (oi := { dst := some 59, op := .fieldAddr 48 (.tmp 5) 2, type := 0, pos := "steps.go:165", after := #[], guard := none }) (v := ?_) rfl (by kernel_rfl) (by kernel_rfl) (by kernel_rfl) (fun _ _ _ h => h) (Or.inl ⟨by rfl, ?_⟩) (by assumption) ?_
  rotate_left
  · intro w hSw
    go_simp
    first | done | with_reducible rfl
  try simp only [Act.put, List.setIfInBounds_toArray, List.set_cons_zero, List.set_cons_succ]
  refine wpAnyH_take (i := 5) (oi := { dst := some 60, op := .load 3 (.tmp 59), type := 3, pos := "steps.go:165", after := #[{ on := 4, ground := .data }], guard := none }) (v := ?_) rfl (by kernel_rfl) (by kernel_rfl) (by kernel_rfl) (fun _ _ _ h => h) (Or.inl ⟨by rfl, ?_⟩) (by assumption) ?_
  rotate_left
  · intro w hSw
    go_simp
    first | done | with_reducible rfl
  try simp only [Act.put, List.setIfInBounds_toArray, List.set_cons_zero, List.set_cons_succ]
  refine wpAnyH_ready (rs := [3]) (by kernel_rfl) (by simp) ?_
  refine AllReadyH.cons (o := { dst := some 58, op := .call { callee := .value (.func 53), args := #[.tmp 55, .tmp 57], argTypes := #[24, 3] }, type := 65, pos := "steps.go:165", after := #[{ on := 0, ground := .data }, { on := 2, ground := .data }], guard := none }) rfl (fun K hK => ?_) AllReadyH.nil
  go_simp
  go_wp2_with (go_at_call 53; refine (CA.out _ (grow_drew (Below.refl _ _))).mono ?_; rintro e V3 ⟨b3, o3, c3, rfl, d3, hb1⟩)
  have BW : Hid (Below V2.heap.size V2 V3) := grow_trans (grow_drew (Below.refl _ _)) hb1
  clear hHeld
  refine hK.out _ _ (KS.out _ BW.out) (fun hHeld => ?_)
  clear hK K
  refine wpAnyH_take (i := 6) (oi := { dst := some 61, op := .indexAddr 65 (.tmp 58) (.tmp 60), type := 0, pos := "steps.go:165", after := #[{ on := 3, ground := .data }, { on := 5, ground := .data }], guard := none }) (v := ?_) rfl (by kernel_rfl) (by kernel_rfl) (by kernel_rfl) (fun _ _ _ h => h) (Or.inl ⟨by rfl, ?_⟩) (by assumption) ?_
  rotate_left
  · intro w hSw
    go_simp
    first | done | with_reducible rfl
  try simp only [Act.put, List.setIfInBounds_toArray, List.set_cons_zero, List.set_cons_succ]
  refine wpAnyH_ready (rs := [7]) (by kernel_rfl) (by simp) ?_
  refine AllReadyH.cons (o := { dst := some 62, op := .load 4 (.tmp 61), type := 4, pos := "steps.go:165", after := #[{ on := 6, ground := .data }], guard := none }) rfl (fun K hK => ?_) AllReadyH.nil
  go_simp
  skip
  clear hHeld
  refine hK.out _ _ (KS.out _ BW.out) (fun hHeld => ?_)
  clear hK K
  refine wpAnyH_take (i := 8) (oi := { dst := some 10, op := .assign (.tmp 62), type := 4, pos := "steps.go:165", after := #[{ on := 7, ground := .data }, { on := 3, ground := .chain }, { on := 0, ground := .phase }, { on := 1, ground := .phase }, { on := 2, ground := .phase }, { on := 3, ground := .phase }, { on := 4, ground := .phase }, { on := 5, ground := .phase }, { on := 6, ground := .phase }, { on := 7, ground := .phase }], guard := none }) (v := ?_) rfl (by kernel_rfl) (by kernel_rfl) (by kernel_rfl) (fun _ _ _ h => h) (Or.inl ⟨by rfl, ?_⟩) (by assumption) ?_
  rotate_left
  · intro w hSw
    go_simp
    first | done | with_reducible rfl
  try simp only [Act.put, List.setIfInBounds_toArray, List.set_cons_zero, List.set_cons_succ]
  refine wpAnyH_done (by kernel_rfl) ?_ _
  have BV3 : Hid (Below W.heap.size W V3) := grow_trans BV2.out BW.out
  clear BW hb1 d3 KS CA BV2 hHeld
  obtain ⟨p0, p1, q0, q1, q2, q3, r0, r1, r2, s0, s1, s2, s3⟩ := KEEP.out V3 BV3.out
  obtain ⟨b4, o4, b5, o5, c5, e4, _, _, z4, z5⟩ := (HS.out.below BV3.out).wr.rows HF.out.wr HF.out.wn h0 n hn
  have z5' := z5 k hk
  rw [e4, HF.out.wr] at q2
  clear z5
  go_upto_region 11 with fail
  go_quiet (fail)
  obtain ⟨V4, eV, BV4⟩ : ∃ V4, V3.drewN nq = V4 ∧ Hid (Below W.heap.size W V4) := ⟨_, rfl, drewN_grow BV3.out _⟩
  rw [eV]
  clear eV BV3 p0 p1 q0 q1 q2 q3 r0 r1 r2 s0 s1 s2 s3 z4 z5' e4
  go_upto_region 12 with fail
  obtain ⟨p0, p1, q0, q1, q2, q3, r0, r1, r2, s0, s1, s2, s3⟩ := KEEP.out V4 BV4.out
  have CA : Hid (∀ w1, Below V4.heap.size V4 w1 → Calls Tryz.prog 54 #[.agg #[.int .i64 sh, .slice la l.length lc], .int .i64 n] w1 fun e w' => ∃ b3 o3 c3, e = .returned (.slice (some ⟨b3, o3, none⟩) sh c3) ∧ w'.cell? ⟨b3, o3 + k, none⟩ = some (.bool (acB sh (gX l n) k)) ∧ Below w1.heap.size w1 w') := fun w1 hb => by
    refine (activeOf_any la lc l sh n _ ((HL.out.below BV4.out).below hb) (HP.out n hn)).mono ?_
    rintro e w2 ⟨a, c, rfl, hbs, hb2⟩
    have hL := marks_len sh (setsIn (locksAt l n))
    obtain ⟨b3, o3, rfl, _, d3⟩ := hbs k (by rw [hL]; exact hk)
    exact ⟨b3, o3, c, by rw [hL], d3, hb2⟩
  have KS : Hid (∀ w', Below V4.heap.size V4 w' → w'.cell? ⟨w.heap.size, 0, none⟩ = some (.int .i64 (sh : Int)) ∧ w'.cell? ⟨w.heap.size, 1, none⟩ = some (.slice la l.length lc) ∧ w'.cell? ⟨w.heap.size + 2, 1, none⟩ = some (.int .i64 (n : Int)) ∧ w'.cell? ⟨w.heap.size + 2, 2, none⟩ = some (.int .i64 (k : Int)) ∧ Hid (Below V4.heap.size V4 w')) := fun w' hb => ⟨ext_cell hb p0, ext_cell hb p1, ext_cell hb r1, ext_cell hb r2, hb⟩
  clear p0 p1 q0 q1 q2 q3 r0 r1 r2 s0 s1 s2 s3
  refine wp_region_held_drew (S := (fun w' => w'.cell? ⟨w.heap.size, 0, none⟩ = some (.int .i64 (sh : Int)) ∧ w'.cell? ⟨w.heap.size, 1, none⟩ = some (.slice la l.length lc) ∧ w'.cell? ⟨w.heap.size + 2, 1, none⟩ = some (.int .i64 (n : Int)) ∧ w'.cell? ⟨w.heap.size + 2, 2, none⟩ = some (.int .i64 (k : Int)) ∧ Hid (Below V4.heap.size V4 w'))) (by kernel_rfl) ?_ (fun hHeld => ?_)
  · refine KS.out _ ?_
    exact grow_drew (Below.refl _ _)
  refine wpAnyH_take (i := 0) (oi := { dst := some 76, op := .load 24 (.tmp 3), type := 24, pos := "steps.go:168", after := #[], guard := none }) (v := ?_) rfl (by kernel_rfl) (by kernel_rfl) (by kernel_rfl) (fun _ _ _ h => h) (Or.inl ⟨by rfl, ?_⟩) (by assumption) ?_
  rotate_left
  · intro w hSw
    go_simp
    first | done | with_reducible rfl
  try simp only [Act.put, List.setIfInBounds_toArray, List.set_cons_zero, List.set_cons_succ]
  refine wpAnyH_take (i := 1) (oi := { dst := some 77, op := .fieldAddr 48 (.tmp 5) 1, type := 0, pos := "steps.go:168", after := #[], guard := none }) (v := ?_) rfl (by kernel_rfl) (by kernel_rfl) (by kernel_rfl) (fun _ _ _ h => h) (Or.inl ⟨by rfl, ?_⟩) (by assumption) ?_
  rotate_left
  · intro w hSw
    go_simp
    first | done | with_reducible rfl
  try simp only [Act.put, List.setIfInBounds_toArray, List.set_cons_zero, List.set_cons_succ]
  refine wpAnyH_take (i := 2) (oi := { dst := some 78, op := .load 3 (.tmp 77), type := 3, pos := "steps.go:168", after := #[{ on := 1, ground := .data }], guard := none }) (v := ?_) rfl (by kernel_rfl) (by kernel_rfl) (by kernel_rfl) (fun _ _ _ h => h) (Or.inl ⟨by rfl, ?_⟩) (by assumption) ?_
  rotate_left
  · intro w hSw
    go_simp
    first | done | with_reducible rfl
  try simp only [Act.put, List.setIfInBounds_toArray, List.set_cons_zero, List.set_cons_succ]
  refine wpAnyH_take (i := 4) (oi := { dst := some 80, op := .fieldAddr 48 (.tmp 5) 2, type := 0, pos := "steps.go:168", after := #[], guard := none }) (v := ?_) rfl (by kernel_rfl) (by kernel_rfl) (by kernel_rfl) (fun _ _ _ h => h) (Or.inl ⟨by rfl, ?_⟩) (by assumption) ?_
  rotate_left
  · intro w hSw
    go_simp
    first | done | with_reducible rfl
  try simp only [Act.put, List.setIfInBounds_toArray, List.set_cons_zero, List.set_cons_succ]
  refine wpAnyH_take (i := 5) (oi := { dst := some 81, op := .load 3 (.tmp 80), type := 3, pos := "steps.go:168", after := #[{ on := 4, ground := .data }], guard := none }) (v := ?_) rfl (by kernel_rfl) (by kernel_rfl) (by kernel_rfl) (fun _ _ _ h => h) (Or.inl ⟨by rfl, ?_⟩) (by assumption) ?_
  rotate_left
  · intro w hSw
    go_simp
    first | done | with_reducible rfl
  try simp only [Act.put, List.setIfInBounds_toArray, List.set_cons_zero, List.set_cons_succ]
  refine wpAnyH_ready (rs := [3]) (by kernel_rfl) (by simp) ?_
  refine AllReadyH.cons (o := { dst := some 79, op := .call { callee := .value (.func 54), args := #[.tmp 76, .tmp 78], argTypes := #[24, 3] }, type := 65, pos := "steps.go:168", after := #[{ on := 0, ground := .data }, { on := 2, ground := .data }], guard := none }) rfl (fun K hK => ?_) AllReadyH.nil
  go_simp
  go_wp2_with (go_at_call 54; refine (CA.out _ (grow_drew (Below.refl _ _))).mono ?_; rintro e V5 ⟨b3, o3, c3, rfl, d3, hb1⟩)
  have BW : Hid (Below V4.heap.size V4 V5) := grow_trans (grow_drew (Below.refl _ _)) hb1
  clear hHeld
  refine hK.out _ _ (KS.out _ BW.out) (fun hHeld => ?_)
  clear hK K
  refine wpAnyH_take (i := 6) (oi := { dst := some 82, op := .indexAddr 65 (.tmp 79) (.tmp 81), type := 0, pos := "steps.go:168", after := #[{ on := 3, ground := .data }, { on := 5, ground := .data }], guard := none }) (v := ?_) rfl (by kernel_rfl) (by kernel_rfl) (by kernel_rfl) (fun _ _ _ h => h) (Or.inl ⟨by rfl, ?_⟩) (by assumption) ?_
  rotate_left
  · intro w hSw
    go_simp
    first | done | with_reducible rfl
  try simp only [Act.put, List.setIfInBounds_toArray, List.set_cons_zero, List.set_cons_succ]
  refine wpAnyH_ready (rs := [7]) (by kernel_rfl) (by simp) ?_
  refine AllReadyH.cons (o := { dst := some 83, op := .load 4 (.tmp 82), type := 4, pos := "steps.go:168", after := #[{ on := 6, ground := .data }], guard := none }) rfl (fun K hK => ?_) AllReadyH.nil
  go_simp
  skip
  clear hHeld
  refine hK.out _ _ (KS.out _ BW.out) (fun hHeld => ?_)
  clear hK K
  refine wpAnyH_take (i := 8) (oi := { dst := some 10, op := .assign (.tmp 83), type := 4, pos := "steps.go:168", after := #[{ on := 7, ground := .data }, { on := 3, ground := .chain }, { on := 0, ground := .phase }, { on := 1, ground := .phase }, { on := 2, ground := .phase }, { on := 3, ground := .phase }, { on := 4, ground := .phase }, { on := 5, ground := .phase }, { on := 6, ground := .phase }, { on := 7, ground := .phase }], guard := none }) (v := ?_) rfl (by kernel_rfl) (by kernel_rfl) (by kernel_rfl) (fun _ _ _ h => h) (Or.inl ⟨by rfl, ?_⟩) (by assumption) ?_
  rotate_left
  · intro w hSw
    go_simp
    first | done | with_reducible rfl
  try simp only [Act.put, List.setIfInBounds_toArray, List.set_cons_zero, List.set_cons_succ]
  refine wpAnyH_done (by kernel_rfl) ?_ _
  have BV5 : Hid (Below W.heap.size W V5) := grow_trans BV4.out BW.out
  clear BW hb1 d3 KS CA BV4 hHeld
  obtain ⟨p0, p1, q0, q1, q2, q3, r0, r1, r2, s0, s1, s2, s3⟩ := KEEP.out V5 BV5.out
  cases eP : acB sh (gX l n) k with
  | false =>
    obtain rfl : E = 5 := by rw [HEE.out, eP]; rfl
    obtain rfl : S9 = SNil := HNS.out (by decide)
    have sf : ∀ j, V5.frozen? ⟨w.heap.size + 3, j, none⟩ = false := fun j => (BV5.out.frozen (p := ⟨w.heap.size + 3, j, none⟩) (by have := sz.out; show w.heap.size + 3 < _; omega)).trans (SF.out j)
    obtain ⟨x0, x1, x2, x3⟩ := put4 qNil s0 s1 s2 s3
    dsimp only [qNil] at x0 x1 x2 x3
    have FB : Hid (Below w.heap.size w ((((V5.setCell ⟨w.heap.size + 3, 0, none⟩ (.slice qNil.sa qNil.sn qNil.sc)).setCell ⟨w.heap.size + 3, 1, none⟩ (.slice qNil.ra qNil.rn qNil.rc)).setCell ⟨w.heap.size + 3, 2, none⟩ (.slice qNil.wa qNil.wn qNil.tc)).setCell ⟨w.heap.size + 3, 3, none⟩ (.slice qNil.va qNil.vn qNil.vc))) := grow_set (grow_set (grow_set (grow_set (grow_trans hW.out BV5.out) (by simp) _) (by simp) _) (by simp) _) (by simp) _
    clear BV5
    go_upto_region 13 with fail
    go_wp2_with fail
    refine bodyPost_ret (v := .tuple #[.agg #[.slice none 0 0, .slice none 0 0, .slice none 0 0, .slice none 0 0], .int .i64 5]) (by simp [results, Tryz.results27, go_sem, x0, x1, x2, x3]) rfl ⟨qNil, rfl, staF_nil _ _, FB.out⟩
  | true =>
    cases eQ : at2 S.wr n k with
    | true =>
      obtain rfl : E = 7 := by rw [HEE.out, eP, eQ]; rfl
      obtain rfl : S9 = SNil := HNS.out (by decide)
      have sf : ∀ j, V5.frozen? ⟨w.heap.size + 3, j, none⟩ = false := fun j => (BV5.out.frozen (p := ⟨w.heap.size + 3, j, none⟩) (by have := sz.out; show w.heap.size + 3 < _; omega)).trans (SF.out j)
      obtain ⟨x0, x1, x2, x3⟩ := put4 qNil s0 s1 s2 s3
      dsimp only [qNil] at x0 x1 x2 x3
      have FB : Hid (Below w.heap.size w ((((V5.setCell ⟨w.heap.size + 3, 0, none⟩ (.slice qNil.sa qNil.sn qNil.sc)).setCell ⟨w.heap.size + 3, 1, none⟩ (.slice qNil.ra qNil.rn qNil.rc)).setCell ⟨w.heap.size + 3, 2, none⟩ (.slice qNil.wa qNil.wn qNil.tc)).setCell ⟨w.heap.size + 3, 3, none⟩ (.slice qNil.va qNil.vn qNil.vc))) := grow_set (grow_set (grow_set (grow_set (grow_trans hW.out BV5.out) (by simp) _) (by simp) _) (by simp) _) (by simp) _
      clear BV5
      go_upto_region 13 with fail
      go_wp2_with fail
      refine bodyPost_ret (v := .tuple #[.agg #[.slice none 0 0, .slice none 0 0, .slice none 0 0, .slice none 0 0], .int .i64 7]) (by simp [results, Tryz.results27, go_sem, x0, x1, x2, x3]) rfl ⟨qNil, rfl, staF_nil _ _, FB.out⟩
    | false =>
      go_upto_region 13 with fail
      go_wp2_with fail
      refine (CM.out _ BV5.out).mono ?_
      rintro e VM ⟨rfl, hbm⟩
      have BVM : Hid (Below W.heap.size W VM) := grow_trans BV5.out hbm
      clear hbm p0 p1 q0 q1 q2 q3 r0 r1 r2 s0 s1 s2 s3
      obtain ⟨p0, p1, q0, q1, q2, q3, r0, r1, r2, s0, s1, s2, s3⟩ := KEEP.out VM BVM.out
      cases eF : mayB sh l S 2 n k with
      | false =>
        obtain rfl : E = 6 := by rw [HEE.out, eP, eQ]; show (if freeB sh l S 2 n k = true then (0 : Int) else 6) = 6; have h := HMF.out; rw [eP, eQ, eF] at h; rw [← show false = freeB sh l S 2 n k by simpa using h]; rfl
        obtain rfl : S9 = SNil := HNS.out (by decide)
        have sf : ∀ j, VM.frozen? ⟨w.heap.size + 3, j, none⟩ = false := fun j => (BVM.out.frozen (p := ⟨w.heap.size + 3, j, none⟩) (by have := sz.out; show w.heap.size + 3 < _; omega)).trans (SF.out j)
        obtain ⟨x0, x1, x2, x3⟩ := put4 qNil s0 s1 s2 s3
        dsimp only [qNil] at x0 x1 x2 x3
        have FB : Hid (Below w.heap.size w ((((VM.setCell ⟨w.heap.size + 3, 0, none⟩ (.slice qNil.sa qNil.sn qNil.sc)).setCell ⟨w.heap.size + 3, 1, none⟩ (.slice qNil.ra qNil.rn qNil.rc)).setCell ⟨w.heap.size + 3, 2, none⟩ (.slice qNil.wa qNil.wn qNil.tc)).setCell ⟨w.heap.size + 3, 3, none⟩ (.slice qNil.va qNil.vn qNil.vc))) := grow_set (grow_set (grow_set (grow_set (grow_trans hW.out BVM.out) (by simp) _) (by simp) _) (by simp) _) (by simp) _
        clear BVM
        go_wp2_with fail
        refine bodyPost_ret (v := .tuple #[.agg #[.slice none 0 0, .slice none 0 0, .slice none 0 0, .slice none 0 0], .int .i64 6]) (by simp [results, Tryz.results27, go_sem, x0, x1, x2, x3]) rfl ⟨qNil, rfl, staF_nil _ _, FB.out⟩
      | true =>
        obtain rfl : E = 0 := by rw [HEE.out, eP, eQ]; show (if freeB sh l S 2 n k = true then (0 : Int) else 6) = 0; have h := HMF.out; rw [eP, eQ, eF] at h; rw [← show true = freeB sh l S 2 n k by simpa using h]; rfl
        obtain rfl : S9 = writeX sh l S n k := HRS.out rfl
        go_wp2_with fail
        refine (CD.out _ BVM.out).mono ?_
        rintro e VD ⟨q, rfl, hq, hbd⟩
        have BVD : Hid (Below W.heap.size W VD) := grow_trans BVM.out hbd
        clear p0 p1 q0 q1 q2 q3 r0 r1 r2 s0 s1 s2 s3
        obtain ⟨p0, p1, q0, q1, q2, q3, r0, r1, r2, s0, s1, s2, s3⟩ := KEEP.out VD BVD.out
        have sf : ∀ j, VD.frozen? ⟨w.heap.size + 3, j, none⟩ = false := fun j => (BVD.out.frozen (p := ⟨w.heap.size + 3, j, none⟩) (by have := sz.out; show w.heap.size + 3 < _; omega)).trans (SF.out j)
        obtain ⟨x0, x1, x2, x3⟩ := put4 q s0 s1 s2 s3
        have hlt : w.heap.size + 3 < VM.heap.size := by have := sz.out; have := BVM.out.size; omega
        have FS : Hid (StaF w.heap.size (writeX sh l S n k) q ((((VD.setCell ⟨w.heap.size + 3, 0, none⟩ (.slice q.sa q.sn q.sc)).setCell ⟨w.heap.size + 3, 1, none⟩ (.slice q.ra q.rn q.rc)).setCell ⟨w.heap.size + 3, 2, none⟩ (.slice q.wa q.wn q.tc)).setCell ⟨w.heap.size + 3, 3, none⟩ (.slice q.va q.vn q.vc))) := ((((hq.set _ 0 _ hlt).set _ 1 _ hlt).set _ 2 _ hlt).set _ 3 _ hlt).low (by omega)
        have FB : Hid (Below w.heap.size w ((((VD.setCell ⟨w.heap.size + 3, 0, none⟩ (.slice q.sa q.sn q.sc)).setCell ⟨w.heap.size + 3, 1, none⟩ (.slice q.ra q.rn q.rc)).setCell ⟨w.heap.size + 3, 2, none⟩ (.slice q.wa q.wn q.tc)).setCell ⟨w.heap.size + 3, 3, none⟩ (.slice q.va q.vn q.vc))) := grow_set (grow_set (grow_set (grow_set (grow_trans hW.out BVD.out) (by simp) _) (by simp) _) (by simp) _) (by simp) _
        clear hq hbd BVD BVM BV5
        go_wp2_with fail
        refine bodyPost_ret (v := .tuple #[.agg #[.slice q.sa q.sn q.sc, .slice q.ra q.rn q.rc, .slice q.wa q.wn q.tc, .slice q.va q.vn q.vc], .int .i64 0]) (by simp [results, Tryz.results27, go_sem, x0, x1, x2, x3]) rfl ⟨q, rfl, FS.out, FB.out⟩
end Go.Proofs.YtebjkmknhpgemaaGreat
