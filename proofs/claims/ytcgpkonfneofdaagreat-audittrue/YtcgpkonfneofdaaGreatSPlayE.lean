/-
  
  Conditions: those that each theorem states.
-/
import Derived.Test.YtcgpkonfneofdaaGreatSPlayD
set_option maxRecDepth 100000
namespace Go.Proofs.YtcgpkonfneofdaaGreat
open Go.RowKit
theorem catchOc_panicking (p : Addr) (x y : Int) (older : List PanicEntry) (w : World) (hc : w.cell? p = some (.int .i64 y)) (hz : w.frozen? p = false) :
  CallsD Tryz.prog 34 #[.pointer (some p)] (.panicking ({ v := .iface 30 (.int .i64 x), recovered := false } :: older)) w fun e u' w' =>
   e = .returned (.tuple #[]) ∧ u' = .panicking ({ v := .iface 30 (.int .i64 x), recovered := true } :: older) ∧ w' = w.setCell p (.int .i64 x) := by
 refine callsD_of_wpS Tryz.func34 rfl fun c₀ cs hu => ?_
 apply wpS_seq
 apply wpS_region
 simp [wpOpsS, go_sem, recoverD, hu, Tryz.ntmps34, Exit.thenS]
 apply wpS_seq
 apply wpS_region
 simp [wpOpsS, go_sem, Exit.thenS]
 refine wpS_cond (t := true) (by simp [Act.eval, Array.replicate]) ?_
 simp only [if_true]
 apply wpS_region
 simp [wpOpsS, go_sem, assert_errno, hc, hz, bodyPostS, results, Tryz.results34]
theorem catchOc_idle (p : Addr) (w : World) :
  CallsD Tryz.prog 34 #[.pointer (some p)] .returning w fun e u' w' => e = .returned (.tuple #[]) ∧ u' = .returning ∧ w' = w := by
 refine callsD_of_wpS Tryz.func34 rfl fun c₀ cs hu => ?_
 apply wpS_seq
 apply wpS_region
 simp [wpOpsS, go_sem, recoverD, hu, Tryz.ntmps34, Exit.thenS]
 apply wpS_seq
 apply wpS_region
 simp [wpOpsS, go_sem, Exit.thenS]
 refine wpS_cond (t := false) (by simp [Act.eval, Array.replicate]) ?_
 simp only [Bool.false_eq_true, if_false]
 refine wpS_of_wp (wp_skip ?_)
 cases c₀
 simp_all [bodyPostS, results, Tryz.results34]
set_option maxHeartbeats 1000000 in
theorem caughtOc_ret (F : FuncId) (cap : Array Value) (hF : ∀ w, Sem.run Tryz.prog (callFunc F cap) w = .ok (.enter F cap) w) (P : Q4 → World → Prop) (n : Int) (w : World) (hP : ∀ q w' i u j, (j = w.heap.size ∨ j = w.heap.size + 1) → P q w' → P q (w'.setCell ⟨j, i, none⟩ u))
  (h : Calls Tryz.prog F cap ((w.alloc (.cells #[.slice none 0 0, .slice none 0 0, .slice none 0 0, .slice none 0 0, .int .i64 0] 44)).alloc (.cells #[.int .i64 0] 30)) fun e w' => ∃ q : Q4, e = .returned (.agg #[.slice q.sa q.sn q.sc, .slice q.ra q.rn q.rc, .slice q.wa q.wn q.tc, .slice q.va q.vn q.vc, .int .i64 n]) ∧ P q w' ∧ Below ((w.alloc (.cells #[.slice none 0 0, .slice none 0 0, .slice none 0 0, .slice none 0 0, .int .i64 0] 44)).alloc (.cells #[.int .i64 0] 30)).heap.size ((w.alloc (.cells #[.slice none 0 0, .slice none 0 0, .slice none 0 0, .slice none 0 0, .int .i64 0] 44)).alloc (.cells #[.int .i64 0] 30)) w') :
  Calls Tryz.prog 9 #[.func (.func F) #[] cap] w fun e w' => ∃ q : Q4, e = .returned (.tuple #[.agg #[.slice q.sa q.sn q.sc, .slice q.ra q.rn q.rc, .slice q.wa q.wn q.tc, .slice q.va q.vn q.vc, .int .i64 n], .int .i64 0]) ∧ P q w' ∧ Below w.heap.size w w' := by
 have hmf : ∀ (fn : Fn) (first cap : Array Value) (w : World), (Instr.makeFunc fn first cap).run Tryz.prog w = .ok (.func fn first cap) w := fun _ _ _ _ => rfl
 have H : Hid (Calls Tryz.prog F cap ((w.alloc (.cells #[.slice none 0 0, .slice none 0 0, .slice none 0 0, .slice none 0 0, .int .i64 0] 44)).alloc (.cells #[.int .i64 0] 30)) fun e w' => ∃ q : Q4, e = .returned (.agg #[.slice q.sa q.sn q.sc, .slice q.ra q.rn q.rc, .slice q.wa q.wn q.tc, .slice q.va q.vn q.vc, .int .i64 n]) ∧ P q w' ∧ Below ((w.alloc (.cells #[.slice none 0 0, .slice none 0 0, .slice none 0 0, .slice none 0 0, .int .i64 0] 44)).alloc (.cells #[.int .i64 0] 30)).heap.size ((w.alloc (.cells #[.slice none 0 0, .slice none 0 0, .slice none 0 0, .slice none 0 0, .int .i64 0] 44)).alloc (.cells #[.int .i64 0] 30)) w') := h
 have HP : Hid (∀ q w' i u j, (j = w.heap.size ∨ j = w.heap.size + 1) → P q w' → P q (w'.setCell ⟨j, i, none⟩ u)) := hP
 have HF : Hid (∀ w, Sem.run Tryz.prog (callFunc F cap) w = .ok (.enter F cap) w) := hF
 clear h hP hF
 go_enter_defers Tryz.func9, Tryz.ntmps9
 go_wp2_with fail
 rw [HF.out, Oper.upon_enter]
 refine H.out.mono ?_
 clear H
 rintro e w1 ⟨q, rfl, hq, hb⟩
 have e0 : w1.cell? ⟨w.heap.size + 1, 0, none⟩ = some (.int .i64 0) := ext_cell hb (at_new _ _ 30 _ 0 _ (by simp) rfl)
 have ef : ∀ j, w1.frozen? ⟨w.heap.size + 1, j, none⟩ = false := fun j => (hb.frozen (p := ⟨w.heap.size + 1, j, none⟩) (by simp)).trans (by simp)
 have c0 : w1.cell? ⟨w.heap.size, 0, none⟩ = some (.slice none 0 0) := ext_cell hb (ext_cell (grow_alloc (Below.refl _ _) _) (at_new w _ 44 _ 0 _ rfl rfl))
 have c1 : w1.cell? ⟨w.heap.size, 1, none⟩ = some (.slice none 0 0) := ext_cell hb (ext_cell (grow_alloc (Below.refl _ _) _) (at_new w _ 44 _ 1 _ rfl rfl))
 have c2 : w1.cell? ⟨w.heap.size, 2, none⟩ = some (.slice none 0 0) := ext_cell hb (ext_cell (grow_alloc (Below.refl _ _) _) (at_new w _ 44 _ 2 _ rfl rfl))
 have c3 : w1.cell? ⟨w.heap.size, 3, none⟩ = some (.slice none 0 0) := ext_cell hb (ext_cell (grow_alloc (Below.refl _ _) _) (at_new w _ 44 _ 3 _ rfl rfl))
 have c4 : w1.cell? ⟨w.heap.size, 4, none⟩ = some (.int .i64 0) := ext_cell hb (ext_cell (grow_alloc (Below.refl _ _) _) (at_new w _ 44 _ 4 _ rfl rfl))
 have cf : ∀ j, w1.frozen? ⟨w.heap.size, j, none⟩ = false := fun j => (hb.frozen (p := ⟨w.heap.size, j, none⟩) (by simp; omega)).trans (((grow_alloc (Below.refl (w.alloc (.cells #[.slice none 0 0, .slice none 0 0, .slice none 0 0, .slice none 0 0, .int .i64 0] 44)).heap.size (w.alloc (.cells #[.slice none 0 0, .slice none 0 0, .slice none 0 0, .slice none 0 0, .int .i64 0] 44))) (.cells #[.int .i64 0] 30)).frozen (p := ⟨w.heap.size, j, none⟩) (by simp)).trans (by simp))
 have HV : Hid (P q w1) := hq
 have B1 : Hid (Below w.heap.size w w1) := grow_trans (grow_alloc (grow_alloc (Below.refl _ _) _) _) hb
 clear hb hq
 go_wp2
 refine leaves_cons (f := 34) (args := #[.pointer (some ⟨w.heap.size + 1, 0, none⟩)]) (by simp) (by simp [go_sem]) ?_
 refine (catchOc_idle ⟨w.heap.size + 1, 0, none⟩ _).mono ?_
 rintro e u' w'' ⟨rfl, rfl, rfl⟩
 simp [Leaves, settle, results, Tryz.results9, go_sem, e0, c0, c1, c2, c3, c4]
 refine ⟨q, by simp, ?_, ?_⟩
 ·exact HP.out _ _ 0 _ _ (.inr rfl) (HP.out _ _ 4 _ _ (.inl rfl) (HP.out _ _ 3 _ _ (.inl rfl) (HP.out _ _ 2 _ _ (.inl rfl) (HP.out _ _ 1 _ _ (.inl rfl) (HP.out _ _ 0 _ _ (.inl rfl) HV.out)))))
 ·exact grow_set (grow_set (grow_set (grow_set (grow_set (grow_set B1.out (Nat.le_refl _) _) (Nat.le_refl _) _) (Nat.le_refl _) _) (Nat.le_refl _) _) (Nat.le_refl _) _) (by simp) _
set_option maxHeartbeats 1000000 in
theorem caughtOc_pan (F : FuncId) (cap : Array Value) (hF : ∀ w, Sem.run Tryz.prog (callFunc F cap) w = .ok (.enter F cap) w) (x : Int) (w : World)
  (h : Calls Tryz.prog F cap ((w.alloc (.cells #[.slice none 0 0, .slice none 0 0, .slice none 0 0, .slice none 0 0, .int .i64 0] 44)).alloc (.cells #[.int .i64 0] 30)) fun e w' => e = .panicked [{ v := .iface 30 (.int .i64 x), recovered := false }] ∧ Below ((w.alloc (.cells #[.slice none 0 0, .slice none 0 0, .slice none 0 0, .slice none 0 0, .int .i64 0] 44)).alloc (.cells #[.int .i64 0] 30)).heap.size ((w.alloc (.cells #[.slice none 0 0, .slice none 0 0, .slice none 0 0, .slice none 0 0, .int .i64 0] 44)).alloc (.cells #[.int .i64 0] 30)) w') :
  Calls Tryz.prog 9 #[.func (.func F) #[] cap] w fun e w' => e = .returned (.tuple #[.agg #[.slice none 0 0, .slice none 0 0, .slice none 0 0, .slice none 0 0, .int .i64 0], .int .i64 x]) ∧ Below w.heap.size w w' := by
 have hmf : ∀ (fn : Fn) (first cap : Array Value) (w : World), (Instr.makeFunc fn first cap).run Tryz.prog w = .ok (.func fn first cap) w := fun _ _ _ _ => rfl
 have H : Hid (Calls Tryz.prog F cap ((w.alloc (.cells #[.slice none 0 0, .slice none 0 0, .slice none 0 0, .slice none 0 0, .int .i64 0] 44)).alloc (.cells #[.int .i64 0] 30)) fun e w' => e = .panicked [{ v := .iface 30 (.int .i64 x), recovered := false }] ∧ Below ((w.alloc (.cells #[.slice none 0 0, .slice none 0 0, .slice none 0 0, .slice none 0 0, .int .i64 0] 44)).alloc (.cells #[.int .i64 0] 30)).heap.size ((w.alloc (.cells #[.slice none 0 0, .slice none 0 0, .slice none 0 0, .slice none 0 0, .int .i64 0] 44)).alloc (.cells #[.int .i64 0] 30)) w') := h
 have HF : Hid (∀ w, Sem.run Tryz.prog (callFunc F cap) w = .ok (.enter F cap) w) := hF
 clear h hF
 go_enter_defers Tryz.func9, Tryz.ntmps9
 go_wp2_with fail
 rw [HF.out, Oper.upon_enter]
 refine H.out.mono ?_
 clear H
 rintro e w1 ⟨rfl, hb⟩
 have e0 : w1.cell? ⟨w.heap.size + 1, 0, none⟩ = some (.int .i64 0) := ext_cell hb (at_new _ _ 30 _ 0 _ (by simp) rfl)
 have ef : w1.frozen? ⟨w.heap.size + 1, 0, none⟩ = false := (hb.frozen (p := ⟨w.heap.size + 1, 0, none⟩) (by simp)).trans (by simp)
 have c0 : w1.cell? ⟨w.heap.size, 0, none⟩ = some (.slice none 0 0) := ext_cell hb (ext_cell (grow_alloc (Below.refl _ _) _) (at_new w _ 44 _ 0 _ rfl rfl))
 have c1 : w1.cell? ⟨w.heap.size, 1, none⟩ = some (.slice none 0 0) := ext_cell hb (ext_cell (grow_alloc (Below.refl _ _) _) (at_new w _ 44 _ 1 _ rfl rfl))
 have c2 : w1.cell? ⟨w.heap.size, 2, none⟩ = some (.slice none 0 0) := ext_cell hb (ext_cell (grow_alloc (Below.refl _ _) _) (at_new w _ 44 _ 2 _ rfl rfl))
 have c3 : w1.cell? ⟨w.heap.size, 3, none⟩ = some (.slice none 0 0) := ext_cell hb (ext_cell (grow_alloc (Below.refl _ _) _) (at_new w _ 44 _ 3 _ rfl rfl))
 have c4 : w1.cell? ⟨w.heap.size, 4, none⟩ = some (.int .i64 0) := ext_cell hb (ext_cell (grow_alloc (Below.refl _ _) _) (at_new w _ 44 _ 4 _ rfl rfl))
 have B1 : Below w.heap.size w w1 := grow_trans (grow_alloc (grow_alloc (Below.refl _ _) _) _) hb
 clear hb
 refine leaves_cons (f := 34) (args := #[.pointer (some ⟨w.heap.size + 1, 0, none⟩)]) (by simp) (by simp [go_sem]) ?_
 refine (catchOc_panicking ⟨w.heap.size + 1, 0, none⟩ x 0 [] _ e0 ef).mono ?_
 rintro e u' w'' ⟨rfl, rfl, rfl⟩
 simp [Leaves, settle, results, Tryz.results9, go_sem, e0, c0, c1, c2, c3, c4]
 exact grow_set B1 (by simp) _
set_option maxHeartbeats 1000000 in
theorem gotState_pan (q : Q4) (x : Int) (hx : ¬ x = 0) (w : World) : Calls Tryz.prog 11 #[.agg #[.slice q.sa q.sn q.sc, .slice q.ra q.rn q.rc, .slice q.wa q.wn q.tc, .slice q.va q.vn q.vc], .int .i64 x] w fun e' w' => e' = .panicked [{ v := .iface 30 (.int .i64 x), recovered := false }] ∧ Below w.heap.size w w' := by
 have hW : Hid (Below w.heap.size w ((w.alloc (.cells #[.slice q.sa q.sn q.sc, .slice q.ra q.rn q.rc, .slice q.wa q.wn q.tc, .slice q.va q.vn q.vc] 29)).alloc (.cells #[.slice none 0 0, .slice none 0 0, .slice none 0 0, .slice none 0 0] 29))) := grow_alloc (grow_alloc (Below.refl _ _) _) _
 go_enter Tryz.func11, Tryz.ntmps11
 go_upto_region 1 with fail
 generalize ((w.alloc (.cells #[.slice q.sa q.sn q.sc, .slice q.ra q.rn q.rc, .slice q.wa q.wn q.tc, .slice q.va q.vn q.vc] 29)).alloc (.cells #[.slice none 0 0, .slice none 0 0, .slice none 0 0, .slice none 0 0] 29)) = W at *
 go_wp2_with fail
 refine (leave_bad [x] 0 x _ 1 _ (by simp) (by simp) (by simp) rfl hx (errs1 _ _ _ (by simp))).mono ?_
 rintro e w' ⟨rfl, rfl⟩
 go_wp2
 refine ⟨rfl, rfl, grow_trans hW.out (grow_alloc (Below.refl _ _) _)⟩
def playE (m : Int) (l : List TxA) (s pk : List Int) : Int := firstNZ [begE m l s, mpE pk.length]
def playS (m : Int) (l : List TxA) (s pk : List Int) : SA := if playE m l s pk = 0 then endX m.toNat l pk s else SNil
def playN (m : Int) (l : List TxA) (s pk : List Int) : Nat := if playE m l s pk = 0 then cntAll m.toNat l else 0
variable (la : Option Addr) (lc : Nat) (l : List TxA) (sa : Option Addr) (sc : Nat) (s : List Int) (pa : Option Addr) (pc : Nat) (pk : List Int)
set_option maxHeartbeats 4000000 in
theorem play1_ok (m : Int) (p y z : Nat) (w : World) (p0 : w.cell? ⟨p, 0, none⟩ = some (.int .i64 m)) (p1 : w.cell? ⟨p, 1, none⟩ = some (.slice la l.length lc)) (y0 : w.cell? ⟨y, 0, none⟩ = some (.slice sa s.length sc)) (z0 : w.cell? ⟨z, 0, none⟩ = some (.slice pa pk.length pc)) (hl : IsTxs w la l) (hs : IsInts w sa s) (hp : IsInts w pa pk) (hpc : pk.length ≤ pc) (hw : ∀ i, i < pk.length → (Lit.int .i64 (pk.getD i 0)).wf = true) (he : begE m l s = 0) (hm : pk.length ≤ 200) :
  Calls Tryz.prog 10 #[.pointer (some ⟨p, 0, none⟩), .pointer (some ⟨y, 0, none⟩), .pointer (some ⟨z, 0, none⟩)] w fun e w' => ∃ q : Q4, e = .returned (.agg #[.slice q.sa q.sn q.sc, .slice q.ra q.rn q.rc, .slice q.wa q.wn q.tc, .slice q.va q.vn q.vc, .int .i64 (cntAll m.toNat l : Nat)]) ∧ StaF w.heap.size (endX m.toNat l pk s) q w' ∧ Below w.heap.size w w' := by
 have mp : mpE pk.length = 0 := if_neg (by omega)
 obtain ⟨W, hWe⟩ : ∃ W : World, W = (w.alloc (.cells #[.slice none 0 0, .slice none 0 0, .slice none 0 0, .slice none 0 0, .int .i64 0] 44)) := ⟨_, rfl⟩
 have hW : Hid (Below w.heap.size w W) := by subst hWe; exact grow_alloc (Below.refl _ _) _
 have HL : Hid (IsTxs W la l) := hl.below hW.out
 have HS : Hid (IsInts W sa s) := hs.below hW.out
 have sz : Hid (W.heap.size = w.heap.size + 1) := by subst hWe; show _ = _; simp
 have SC : Hid (W.cell? ⟨w.heap.size, 0, none⟩ = some (.slice none 0 0) ∧ W.cell? ⟨w.heap.size, 1, none⟩ = some (.slice none 0 0) ∧ W.cell? ⟨w.heap.size, 2, none⟩ = some (.slice none 0 0) ∧ W.cell? ⟨w.heap.size, 3, none⟩ = some (.slice none 0 0) ∧ W.cell? ⟨w.heap.size, 4, none⟩ = some (.int .i64 0)) := by subst hWe; exact ⟨at_new _ _ 44 _ 0 _ rfl rfl, at_new _ _ 44 _ 1 _ rfl rfl, at_new _ _ 44 _ 2 _ rfl rfl, at_new _ _ 44 _ 3 _ rfl rfl, at_new _ _ 44 _ 4 _ rfl rfl⟩
 have SF : Hid (∀ j, W.frozen? ⟨w.heap.size, j, none⟩ = false) := by subst hWe; exact fun j => frozen_new _ _ 44 _ j rfl
 have a0 := ext_cell hW.out p0
 have a1 := ext_cell hW.out p1
 have b0 := ext_cell hW.out y0
 have c0 := ext_cell hW.out z0
 have HP : Hid (IsInts W pa pk) := hp.below hW.out
 have HE : Hid (begE m l s = 0) := he
 have HPC : Hid (pk.length ≤ pc) := hpc
 have HM : Hid (pk.length ≤ 200) := hm
 have HWF : Hid (∀ i, i < pk.length → (Lit.int .i64 (pk.getD i 0)).wf = true) := hw
 have MP : Hid (mpE pk.length = 0) := mp
 clear hl hs hp hpc hm hw he mp p0 p1 y0 z0
 have HWe : Hid (W = _) := hWe
 clear hWe
 go_enter Tryz.func10, Tryz.ntmps10
 go_upto_region 1 with fail
 rw [← HWe.out]
 clear HWe
 go_wp2_with fail
 refine (stepsBegin_any la lc l sa sc s m _ HL.out HS.out).mono ?_
 rintro e w1 ⟨q, rfl, hq, hb1⟩
 rw [HE.out]
 go_wp2_with fail
 refine (gotState_ok q _).mono ?_
 rintro e w2 ⟨rfl, hb2⟩
 have g2 : Hid (Below W.heap.size W (w2.alloc (.cells #[.slice q.sa q.sn q.sc, .slice q.ra q.rn q.rc, .slice q.wa q.wn q.tc, .slice q.va q.vn q.vc] 29))) := grow_trans hb1 (grow_trans hb2 (grow_alloc (Below.refl _ _) _))
 have hq2 : Hid (StaF W.heap.size (begS m l s) q (w2.alloc (.cells #[.slice q.sa q.sn q.sc, .slice q.ra q.rn q.rc, .slice q.wa q.wn q.tc, .slice q.va q.vn q.vc] 29))) := (hq.below hb2).below (grow_alloc (Below.refl _ _) _)
 have v0 : (w2.alloc (.cells #[.slice q.sa q.sn q.sc, .slice q.ra q.rn q.rc, .slice q.wa q.wn q.tc, .slice q.va q.vn q.vc] 29)).cell? ⟨w2.heap.size, 0, none⟩ = some (.slice q.sa q.sn q.sc) := at_new _ _ 29 _ 0 _ rfl rfl
 have v1 : (w2.alloc (.cells #[.slice q.sa q.sn q.sc, .slice q.ra q.rn q.rc, .slice q.wa q.wn q.tc, .slice q.va q.vn q.vc] 29)).cell? ⟨w2.heap.size, 1, none⟩ = some (.slice q.ra q.rn q.rc) := at_new _ _ 29 _ 1 _ rfl rfl
 have v2 : (w2.alloc (.cells #[.slice q.sa q.sn q.sc, .slice q.ra q.rn q.rc, .slice q.wa q.wn q.tc, .slice q.va q.vn q.vc] 29)).cell? ⟨w2.heap.size, 2, none⟩ = some (.slice q.wa q.wn q.tc) := at_new _ _ 29 _ 2 _ rfl rfl
 have v3 : (w2.alloc (.cells #[.slice q.sa q.sn q.sc, .slice q.ra q.rn q.rc, .slice q.wa q.wn q.tc, .slice q.va q.vn q.vc] 29)).cell? ⟨w2.heap.size, 3, none⟩ = some (.slice q.va q.vn q.vc) := at_new _ _ 29 _ 3 _ rfl rfl
 have a0 := ext_cell g2.out a0
 have a1 := ext_cell g2.out a1
 have c0 := ext_cell g2.out c0
 clear hb1 hb2 hq b0
 go_upto_region 2 with fail
 generalize (w2.alloc (.cells #[.slice q.sa q.sn q.sc, .slice q.ra q.rn q.rc, .slice q.wa q.wn q.tc, .slice q.va q.vn q.vc] 29)) = V at *
 generalize w2.heap.size = B2 at *
 go_wp2_with fail
 refine (manyPicks_any pa pk.length pc _).mono ?_
 rintro e w3 ⟨rfl, rfl⟩
 rw [MP.out]
 go_wp2_with fail
 refine (leave_zero [0] _ 1 _ (by simp) rfl (errs1 _ _ _ (by simp))).mono ?_
 rintro e w4 ⟨rfl, rfl⟩
 have gA : Below w3.heap.size w3 (w3.alloc (.cells #[.int .i64 0] 30)) := grow_alloc (Below.refl _ _) _
 have a0 := ext_cell gA a0
 have a1 := ext_cell gA a1
 have c0 := ext_cell gA c0
 have v0 := ext_cell gA v0
 have v1 := ext_cell gA v1
 have v2 := ext_cell gA v2
 have v3 := ext_cell gA v3
 have g3 : Hid (Below W.heap.size W (w3.alloc (.cells #[.int .i64 0] 30))) := grow_trans g2.out gA
 have hq3 : Hid (StaF W.heap.size (begS m l s) q (w3.alloc (.cells #[.int .i64 0] 30))) := hq2.out.below gA
 clear gA g2 hq2
 generalize w3.alloc (.cells #[.int .i64 0] 30) = X at *
 go_wp2_with fail
 refine (march_any la lc l pa pc pk s m q _ (HL.out.below g3.out) W.heap.size g3.out.size hq3.out (HP.out.below g3.out) HPC.out HWF.out HM.out HE.out).mono ?_
 rintro e w5 ⟨q5, rfl, h5, hb5⟩
 have B5 : Hid (Below W.heap.size W w5) := grow_trans g3.out hb5
 obtain ⟨s0, s1, s2, s3, s4⟩ := SC.out
 have s0 := ext_cell B5.out s0
 have s1 := ext_cell B5.out s1
 have s2 := ext_cell B5.out s2
 have s3 := ext_cell B5.out s3
 have s4 := ext_cell B5.out s4
 have sf : ∀ j, w5.frozen? ⟨w.heap.size, j, none⟩ = false := fun j => (B5.out.frozen (p := ⟨w.heap.size, j, none⟩) (by have := sz.out; show w.heap.size < _; omega)).trans (SF.out j)
 obtain ⟨y0, y1, y2, y3, y4⟩ := put5 q5 (cntAll m.toNat l : Nat) s0 s1 s2 s3 s4
 have HA : w.heap.size < W.heap.size := by have := sz.out; omega
 have HB : w.heap.size ≤ w.heap.size := Nat.le_refl _
 have FS : Hid (StaF w.heap.size (endX m.toNat l pk s) q5 (((((w5.setCell ⟨w.heap.size, 0, none⟩ (.slice q5.sa q5.sn q5.sc)).setCell ⟨w.heap.size, 1, none⟩ (.slice q5.ra q5.rn q5.rc)).setCell ⟨w.heap.size, 2, none⟩ (.slice q5.wa q5.wn q5.tc)).setCell ⟨w.heap.size, 3, none⟩ (.slice q5.va q5.vn q5.vc)).setCell ⟨w.heap.size, 4, none⟩ (.int .i64 (cntAll m.toNat l : Nat)))) := (((((h5.set _ 0 _ HA).set _ 1 _ HA).set _ 2 _ HA).set _ 3 _ HA).set _ 4 _ HA).low (by omega)
 have FB : Hid (Below w.heap.size w (((((w5.setCell ⟨w.heap.size, 0, none⟩ (.slice q5.sa q5.sn q5.sc)).setCell ⟨w.heap.size, 1, none⟩ (.slice q5.ra q5.rn q5.rc)).setCell ⟨w.heap.size, 2, none⟩ (.slice q5.wa q5.wn q5.tc)).setCell ⟨w.heap.size, 3, none⟩ (.slice q5.va q5.vn q5.vc)).setCell ⟨w.heap.size, 4, none⟩ (.int .i64 (cntAll m.toNat l : Nat)))) := grow_set (grow_set (grow_set (grow_set (grow_set (grow_trans hW.out B5.out) HB _) HB _) HB _) HB _) HB _
 go_wp2
 refine bodyPost_ret (v := .agg #[.slice q5.sa q5.sn q5.sc, .slice q5.ra q5.rn q5.rc, .slice q5.wa q5.wn q5.tc, .slice q5.va q5.vn q5.vc, .int .i64 (cntAll m.toNat l : Nat)]) (by simp [results, Tryz.results10, go_sem, y0, y1, y2, y3, y4]) rfl ⟨q5, rfl, FS.out, FB.out⟩
set_option maxHeartbeats 4000000 in
theorem play1_pan (m : Int) (p y z : Nat) (w : World) (p0 : w.cell? ⟨p, 0, none⟩ = some (.int .i64 m)) (p1 : w.cell? ⟨p, 1, none⟩ = some (.slice la l.length lc)) (y0 : w.cell? ⟨y, 0, none⟩ = some (.slice sa s.length sc)) (z0 : w.cell? ⟨z, 0, none⟩ = some (.slice pa pk.length pc)) (hl : IsTxs w la l) (hs : IsInts w sa s) (he : ¬ playE m l s pk = 0) :
  Calls Tryz.prog 10 #[.pointer (some ⟨p, 0, none⟩), .pointer (some ⟨y, 0, none⟩), .pointer (some ⟨z, 0, none⟩)] w fun e w' => e = .panicked [{ v := .iface 30 (.int .i64 (playE m l s pk)), recovered := false }] ∧ Below w.heap.size w w' := by
 have hW : Hid (Below w.heap.size w (w.alloc (.cells #[.slice none 0 0, .slice none 0 0, .slice none 0 0, .slice none 0 0, .int .i64 0] 44))) := grow_alloc (Below.refl _ _) _
 have HL : Hid (IsTxs (w.alloc (.cells #[.slice none 0 0, .slice none 0 0, .slice none 0 0, .slice none 0 0, .int .i64 0] 44)) la l) := hl.below hW.out
 have HS : Hid (IsInts (w.alloc (.cells #[.slice none 0 0, .slice none 0 0, .slice none 0 0, .slice none 0 0, .int .i64 0] 44)) sa s) := hs.below hW.out
 have sz : Hid ((w.alloc (.cells #[.slice none 0 0, .slice none 0 0, .slice none 0 0, .slice none 0 0, .int .i64 0] 44)).heap.size = w.heap.size + 1) := by show _ = _; simp
 have SC : Hid ((w.alloc (.cells #[.slice none 0 0, .slice none 0 0, .slice none 0 0, .slice none 0 0, .int .i64 0] 44)).cell? ⟨w.heap.size, 0, none⟩ = some (.slice none 0 0) ∧ (w.alloc (.cells #[.slice none 0 0, .slice none 0 0, .slice none 0 0, .slice none 0 0, .int .i64 0] 44)).cell? ⟨w.heap.size, 1, none⟩ = some (.slice none 0 0) ∧ (w.alloc (.cells #[.slice none 0 0, .slice none 0 0, .slice none 0 0, .slice none 0 0, .int .i64 0] 44)).cell? ⟨w.heap.size, 2, none⟩ = some (.slice none 0 0) ∧ (w.alloc (.cells #[.slice none 0 0, .slice none 0 0, .slice none 0 0, .slice none 0 0, .int .i64 0] 44)).cell? ⟨w.heap.size, 3, none⟩ = some (.slice none 0 0) ∧ (w.alloc (.cells #[.slice none 0 0, .slice none 0 0, .slice none 0 0, .slice none 0 0, .int .i64 0] 44)).cell? ⟨w.heap.size, 4, none⟩ = some (.int .i64 0)) := ⟨at_new _ _ 44 _ 0 _ rfl rfl, at_new _ _ 44 _ 1 _ rfl rfl, at_new _ _ 44 _ 2 _ rfl rfl, at_new _ _ 44 _ 3 _ rfl rfl, at_new _ _ 44 _ 4 _ rfl rfl⟩
 have SF : Hid (∀ j, (w.alloc (.cells #[.slice none 0 0, .slice none 0 0, .slice none 0 0, .slice none 0 0, .int .i64 0] 44)).frozen? ⟨w.heap.size, j, none⟩ = false) := fun j => frozen_new _ _ 44 _ j rfl
 have a0 := ext_cell hW.out p0
 have a1 := ext_cell hW.out p1
 have b0 := ext_cell hW.out y0
 have c0 := ext_cell hW.out z0
 clear hl hs p0 p1 y0 z0
 by_cases hz : begE m l s = 0
 ·have e1 : playE m l s pk = mpE pk.length := by unfold playE; rw [hz]; by_cases c : mpE pk.length = 0 <;> simp [firstNZ, c]
  rw [e1] at he ⊢
  have HE : Hid (begE m l s = 0) := hz
  have MP : Hid (¬ mpE pk.length = 0) := he
  clear e1 hz he
  go_enter Tryz.func10, Tryz.ntmps10
  go_upto_region 1 with fail
  generalize (w.alloc (.cells #[.slice none 0 0, .slice none 0 0, .slice none 0 0, .slice none 0 0, .int .i64 0] 44)) = W at *
  go_wp2_with fail
  refine (stepsBegin_any la lc l sa sc s m _ HL.out HS.out).mono ?_
  rintro e w1 ⟨q, rfl, hq, hb1⟩
  rw [HE.out]
  go_wp2_with fail
  refine (gotState_ok q _).mono ?_
  rintro e w2 ⟨rfl, hb2⟩
  have g2 : Hid (Below W.heap.size W (w2.alloc (.cells #[.slice q.sa q.sn q.sc, .slice q.ra q.rn q.rc, .slice q.wa q.wn q.tc, .slice q.va q.vn q.vc] 29))) := grow_trans hb1 (grow_trans hb2 (grow_alloc (Below.refl _ _) _))
  have c0 := ext_cell g2.out c0
  clear hb1 hb2 hq b0
  go_upto_region 2 with fail
  generalize (w2.alloc (.cells #[.slice q.sa q.sn q.sc, .slice q.ra q.rn q.rc, .slice q.wa q.wn q.tc, .slice q.va q.vn q.vc] 29)) = V at *
  go_wp2_with fail
  refine (manyPicks_any pa pk.length pc _).mono ?_
  rintro e w3 ⟨rfl, rfl⟩
  generalize hx : mpE pk.length = x at *
  go_wp2_with fail
  refine (leave_bad [x] 0 x _ 1 _ (by simp) (by simp) (by simp) rfl MP.out (errs1 _ _ _ (by simp))).mono ?_
  rintro e w4 ⟨rfl, rfl⟩
  go_wp2
  exact ⟨rfl, by rw [hx], grow_trans hW.out (grow_trans g2.out (grow_alloc (Below.refl _ _) _))⟩
 ·have e1 : playE m l s pk = begE m l s := by unfold playE; simp [firstNZ, hz]
  rw [e1]
  have HE : Hid (¬ begE m l s = 0) := hz
  clear e1 hz he
  go_enter Tryz.func10, Tryz.ntmps10
  go_upto_region 1 with fail
  generalize (w.alloc (.cells #[.slice none 0 0, .slice none 0 0, .slice none 0 0, .slice none 0 0, .int .i64 0] 44)) = W at *
  go_wp2_with fail
  refine (stepsBegin_any la lc l sa sc s m _ HL.out HS.out).mono ?_
  rintro e w1 ⟨q, rfl, hq, hb1⟩
  generalize hx : begE m l s = x at *
  go_wp2_with fail
  refine (gotState_pan q x HE.out _).mono ?_
  rintro e w2 ⟨rfl, hb2⟩
  go_wp2
  exact ⟨rfl, by rw [hx], grow_trans hW.out (grow_trans hb1 hb2)⟩
set_option maxHeartbeats 4000000 in
theorem play_any (m : Int) (w : World) (hl : IsTxs w la l) (hs : IsInts w sa s) (hp : IsInts w pa pk) (hpc : pk.length ≤ pc) (hw : ∀ i, i < pk.length → (Lit.int .i64 (pk.getD i 0)).wf = true) :
  Calls Tryz.prog 4 #[.agg #[.int .i64 m, .slice la l.length lc], .slice sa s.length sc, .slice pa pk.length pc] w fun e w' => ∃ q : Q4, e = .returned (.tuple #[.agg #[.slice q.sa q.sn q.sc, .slice q.ra q.rn q.rc, .slice q.wa q.wn q.tc, .slice q.va q.vn q.vc], .int .i64 (playN m l s pk : Nat), .int .i64 (playE m l s pk)]) ∧ StaF w.heap.size (playS m l s pk) q w' ∧ Below w.heap.size w w' := by
 obtain ⟨W, hWe⟩ : ∃ W : World, W = ((((w.alloc (.cells #[.int .i64 m, .slice la l.length lc] 24)).alloc (.cells #[.slice sa s.length sc] 25)).alloc (.cells #[.slice pa pk.length pc] 25)).alloc (.cells #[.slice none 0 0, .slice none 0 0, .slice none 0 0, .slice none 0 0] 29)) := ⟨_, rfl⟩
 have hU : Hid (Below w.heap.size w W) := by subst hWe; exact (grow_alloc (grow_alloc (grow_alloc (grow_alloc (Below.refl _ _) _) _) _) _)
 have sz : Hid (W.heap.size = w.heap.size + 4) := by subst hWe; show _ = _; simp
 have p0 : W.cell? ⟨w.heap.size, 0, none⟩ = some (.int .i64 m) := by subst hWe; exact ext_cell (grow_alloc (grow_alloc (grow_alloc (Below.refl _ _) _) _) _) (at_new _ _ 24 _ 0 _ rfl rfl)
 have p1 : W.cell? ⟨w.heap.size, 1, none⟩ = some (.slice la l.length lc) := by subst hWe; exact ext_cell (grow_alloc (grow_alloc (grow_alloc (Below.refl _ _) _) _) _) (at_new _ _ 24 _ 1 _ rfl rfl)
 have y0 : W.cell? ⟨w.heap.size + 1, 0, none⟩ = some (.slice sa s.length sc) := by subst hWe; exact ext_cell (grow_alloc (grow_alloc (Below.refl _ _) _) _) (at_new _ _ 25 _ 0 _ (by simp) rfl)
 have z0 : W.cell? ⟨w.heap.size + 2, 0, none⟩ = some (.slice pa pk.length pc) := by subst hWe; exact ext_cell (grow_alloc (Below.refl _ _) _) (at_new _ _ 25 _ 0 _ (by simp) rfl)
 have TC : Hid (W.cell? ⟨w.heap.size + 3, 0, none⟩ = some (.slice none 0 0) ∧ W.cell? ⟨w.heap.size + 3, 1, none⟩ = some (.slice none 0 0) ∧ W.cell? ⟨w.heap.size + 3, 2, none⟩ = some (.slice none 0 0) ∧ W.cell? ⟨w.heap.size + 3, 3, none⟩ = some (.slice none 0 0)) := by subst hWe; exact ⟨at_new _ _ 29 _ 0 _ (by simp) rfl, at_new _ _ 29 _ 1 _ (by simp) rfl, at_new _ _ 29 _ 2 _ (by simp) rfl, at_new _ _ 29 _ 3 _ (by simp) rfl⟩
 have TF : Hid (∀ j, W.frozen? ⟨w.heap.size + 3, j, none⟩ = false) := by subst hWe; exact fun j => frozen_new _ _ 29 _ j (by simp)
 have hmf : ∀ (fn : Fn) (first cap : Array Value) (w : World), (Instr.makeFunc fn first cap).run Tryz.prog w = .ok (.func fn first cap) w := fun _ _ _ _ => rfl
 have CC : Hid (Calls Tryz.prog 9 #[.func (.func 10) #[] #[.pointer (some ⟨w.heap.size, 0, none⟩), .pointer (some ⟨w.heap.size + 1, 0, none⟩), .pointer (some ⟨w.heap.size + 2, 0, none⟩)]] W fun e w' => ∃ q : Q4, e = .returned (.tuple #[.agg #[.slice q.sa q.sn q.sc, .slice q.ra q.rn q.rc, .slice q.wa q.wn q.tc, .slice q.va q.vn q.vc, .int .i64 (playN m l s pk : Nat)], .int .i64 (playE m l s pk)]) ∧ StaF (w.heap.size + 4) (playS m l s pk) q w' ∧ Below W.heap.size W w') := by
  have g : Below W.heap.size W ((W.alloc (.cells #[.slice none 0 0, .slice none 0 0, .slice none 0 0, .slice none 0 0, .int .i64 0] 44)).alloc (.cells #[.int .i64 0] 30)) := grow_alloc (grow_alloc (Below.refl _ _) _) _
  have gz : ((W.alloc (.cells #[.slice none 0 0, .slice none 0 0, .slice none 0 0, .slice none 0 0, .int .i64 0] 44)).alloc (.cells #[.int .i64 0] 30)).heap.size = W.heap.size + 2 := by simp
  have p0 := ext_cell g p0
  have p1 := ext_cell g p1
  have y0 := ext_cell g y0
  have z0 := ext_cell g z0
  have hl' := hl.below (grow_trans hU.out g)
  have hs' := hs.below (grow_trans hU.out g)
  by_cases hE : playE m l s pk = 0
  ·have e1 : playS m l s pk = endX m.toNat l pk s := if_pos hE
   have e2 : playN m l s pk = cntAll m.toNat l := if_pos hE
   have h' := firstNZ_zero _ hE
   have h0 : begE m l s = 0 := h' 0
   have h1 : mpE pk.length = 0 := h' 1
   have hm : pk.length ≤ 200 := by
    by_cases c : pk.length ≤ 200
    ·exact c
    ·have : mpE pk.length = 2 := if_pos (by omega)
     omega
   rw [e1, e2, hE]
   refine (caughtOc_ret 10 _ (fun _ => rfl) (fun q w' => StaF (w.heap.size + 6) (endX m.toNat l pk s) q w') (cntAll m.toNat l : Nat) W (fun q w' i u j hj h => h.set j i u (by have := sz.out; omega)) ((play1_ok la lc l sa sc s pa pc pk m _ _ _ _ p0 p1 y0 z0 hl' hs' (hp.below (grow_trans hU.out g)) hpc hw h0 hm).mono ?_)).mono ?_
   ·rintro e w' ⟨q, rfl, ho, hb⟩
    exact ⟨q, rfl, ho.low (by rw [gz, sz.out]; omega), hb⟩
   ·rintro e w' ⟨q, rfl, ho, hb⟩
    exact ⟨q, rfl, ho.low (by omega), hb⟩
  ·have e1 : playS m l s pk = SNil := if_neg hE
   have e2 : playN m l s pk = 0 := if_neg hE
   rw [e1, e2]
   refine (caughtOc_pan 10 _ (fun _ => rfl) _ W (play1_pan la lc l sa sc s pa pc pk m _ _ _ _ p0 p1 y0 z0 hl' hs' hE)).mono ?_
   rintro e w' ⟨rfl, hb⟩
   exact ⟨qNil, rfl, staF_nil _ _, hb⟩
 have HWe : Hid (W = _) := hWe
 clear p0 p1 y0 z0 hl hs hp hpc hw hWe
 go_enter Tryz.func4, Tryz.ntmps4
 go_upto_region 1 with fail
 rw [← HWe.out]
 clear HWe
 generalize hN : playN m l s pk = N at *
 generalize hE : playE m l s pk = E at *
 generalize hS : playS m l s pk = S at *
 go_wp2_with fail
 refine CC.out.mono ?_
 clear CC
 rintro e w1 ⟨q, rfl, hq, hb⟩
 have gO : Below w1.heap.size w1 (w1.alloc (.cells #[.slice q.sa q.sn q.sc, .slice q.ra q.rn q.rc, .slice q.wa q.wn q.tc, .slice q.va q.vn q.vc, .int .i64 (N : Nat)] 44)) := grow_alloc (Below.refl _ _) _
 have B1 : Hid (Below W.heap.size W (w1.alloc (.cells #[.slice q.sa q.sn q.sc, .slice q.ra q.rn q.rc, .slice q.wa q.wn q.tc, .slice q.va q.vn q.vc, .int .i64 (N : Nat)] 44))) := grow_trans hb gO
 have HQ : Hid (StaF (w.heap.size + 4) S q (w1.alloc (.cells #[.slice q.sa q.sn q.sc, .slice q.ra q.rn q.rc, .slice q.wa q.wn q.tc, .slice q.va q.vn q.vc, .int .i64 (N : Nat)] 44))) := hq.below gO
 have o0 : (w1.alloc (.cells #[.slice q.sa q.sn q.sc, .slice q.ra q.rn q.rc, .slice q.wa q.wn q.tc, .slice q.va q.vn q.vc, .int .i64 (N : Nat)] 44)).cell? ⟨w1.heap.size, 0, none⟩ = some (.slice q.sa q.sn q.sc) := at_new _ _ 44 _ 0 _ rfl rfl
 have o1 : (w1.alloc (.cells #[.slice q.sa q.sn q.sc, .slice q.ra q.rn q.rc, .slice q.wa q.wn q.tc, .slice q.va q.vn q.vc, .int .i64 (N : Nat)] 44)).cell? ⟨w1.heap.size, 1, none⟩ = some (.slice q.ra q.rn q.rc) := at_new _ _ 44 _ 1 _ rfl rfl
 have o2 : (w1.alloc (.cells #[.slice q.sa q.sn q.sc, .slice q.ra q.rn q.rc, .slice q.wa q.wn q.tc, .slice q.va q.vn q.vc, .int .i64 (N : Nat)] 44)).cell? ⟨w1.heap.size, 2, none⟩ = some (.slice q.wa q.wn q.tc) := at_new _ _ 44 _ 2 _ rfl rfl
 have o3 : (w1.alloc (.cells #[.slice q.sa q.sn q.sc, .slice q.ra q.rn q.rc, .slice q.wa q.wn q.tc, .slice q.va q.vn q.vc, .int .i64 (N : Nat)] 44)).cell? ⟨w1.heap.size, 3, none⟩ = some (.slice q.va q.vn q.vc) := at_new _ _ 44 _ 3 _ rfl rfl
 have o4 : (w1.alloc (.cells #[.slice q.sa q.sn q.sc, .slice q.ra q.rn q.rc, .slice q.wa q.wn q.tc, .slice q.va q.vn q.vc, .int .i64 (N : Nat)] 44)).cell? ⟨w1.heap.size, 4, none⟩ = some (.int .i64 (N : Nat)) := at_new _ _ 44 _ 4 _ rfl rfl
 have HS1 : Hid (W.heap.size ≤ w1.heap.size) := hb.size
 clear gO hb hq
 go_upto_region 2 with fail
 obtain ⟨t0, t1, t2, t3⟩ := TC.out
 have t0 := ext_cell B1.out t0
 have t1 := ext_cell B1.out t1
 have t2 := ext_cell B1.out t2
 have t3 := ext_cell B1.out t3
 have hne : w.heap.size + 3 ≠ w1.heap.size := by have := sz.out; have := HS1.out; omega
 have tf : ∀ j, (w1.alloc (.cells #[.slice q.sa q.sn q.sc, .slice q.ra q.rn q.rc, .slice q.wa q.wn q.tc, .slice q.va q.vn q.vc, .int .i64 (N : Nat)] 44)).frozen? ⟨w.heap.size + 3, j, none⟩ = false := fun j => (B1.out.frozen (p := ⟨w.heap.size + 3, j, none⟩) (by have := sz.out; show w.heap.size + 3 < _; omega)).trans (TF.out j)
 generalize (w1.alloc (.cells #[.slice q.sa q.sn q.sc, .slice q.ra q.rn q.rc, .slice q.wa q.wn q.tc, .slice q.va q.vn q.vc, .int .i64 (N : Nat)] 44)) = V at *
 generalize w1.heap.size = O at *
 obtain ⟨x0, x1, x2, x3⟩ := put4 q t0 t1 t2 t3
 have HA : w.heap.size + 3 < w.heap.size + 4 := by omega
 have HB : w.heap.size ≤ w.heap.size + 3 := by omega
 have FS : Hid (StaF w.heap.size S q ((((V.setCell ⟨w.heap.size + 3, 0, none⟩ (.slice q.sa q.sn q.sc)).setCell ⟨w.heap.size + 3, 1, none⟩ (.slice q.ra q.rn q.rc)).setCell ⟨w.heap.size + 3, 2, none⟩ (.slice q.wa q.wn q.tc)).setCell ⟨w.heap.size + 3, 3, none⟩ (.slice q.va q.vn q.vc))) := ((((HQ.out.set _ 0 _ HA).set _ 1 _ HA).set _ 2 _ HA).set _ 3 _ HA).low (by omega)
 have FB : Hid (Below w.heap.size w ((((V.setCell ⟨w.heap.size + 3, 0, none⟩ (.slice q.sa q.sn q.sc)).setCell ⟨w.heap.size + 3, 1, none⟩ (.slice q.ra q.rn q.rc)).setCell ⟨w.heap.size + 3, 2, none⟩ (.slice q.wa q.wn q.tc)).setCell ⟨w.heap.size + 3, 3, none⟩ (.slice q.va q.vn q.vc))) := grow_set (grow_set (grow_set (grow_set (grow_trans hU.out B1.out) HB _) HB _) HB _) HB _
 have FS : Hid (StaF w.heap.size S q ((((V.setCell ⟨w.heap.size + 3, 0, none⟩ (.slice q.sa q.sn q.sc)).setCell ⟨w.heap.size + 3, 1, none⟩ (.slice q.ra q.rn q.rc)).setCell ⟨w.heap.size + 3, 2, none⟩ (.slice q.wa q.wn q.tc)).setCell ⟨w.heap.size + 3, 3, none⟩ (.slice q.va q.vn q.vc)).drew) := FS.out.below (grow_drew (Below.refl _ _))
 have FB : Hid (Below w.heap.size w ((((V.setCell ⟨w.heap.size + 3, 0, none⟩ (.slice q.sa q.sn q.sc)).setCell ⟨w.heap.size + 3, 1, none⟩ (.slice q.ra q.rn q.rc)).setCell ⟨w.heap.size + 3, 2, none⟩ (.slice q.wa q.wn q.tc)).setCell ⟨w.heap.size + 3, 3, none⟩ (.slice q.va q.vn q.vc)).drew) := grow_drew FB.out
 go_region
 go_wp2
 refine bodyPost_ret (v := .tuple #[.agg #[.slice q.sa q.sn q.sc, .slice q.ra q.rn q.rc, .slice q.wa q.wn q.tc, .slice q.va q.vn q.vc], .int .i64 (N : Nat), .int .i64 E]) (by simp [results, Tryz.results4, go_sem, x0, x1, x2, x3]) rfl ⟨q, by rw [hN, hE], by rw [hS]; exact FS.out, FB.out⟩
end Go.Proofs.YtcgpkonfneofdaaGreat
