/-
  
  Conditions: those that each theorem states.
-/
import Derived.Test.YtebjkmknhpgemaaGreatUPlayD
set_option maxRecDepth 100000
namespace Go.Proofs.YtebjkmknhpgemaaGreat
open Go.RowKit
theorem lL (p : Addr) (x y : Int) (older : List PanicEntry) (w : World) (hc : w.cell? p = some (.int .i64 y)) (hz : w.frozen? p = false) :
  CallsD Tryz.prog 114 #[.pointer (some p)] (.panicking ({ v := .iface 30 (.int .i64 x), recovered := false } :: older)) w fun e u' w' =>
   e = .returned (.tuple #[]) ∧ u' = .panicking ({ v := .iface 30 (.int .i64 x), recovered := true } :: older) ∧ w' = w.setCell p (.int .i64 x) := by
 refine callsD_of_wpS Tryz.func114 rfl fun c₀ cs hu => ?_
 apply wpS_seq
 apply wpS_region
 simp [wpOpsS, go_sem, recoverD, hu, Tryz.ntmps114, Exit.thenS]
 apply wpS_seq
 apply wpS_region
 simp [wpOpsS, go_sem, Exit.thenS]
 refine wpS_cond (t := true) (by simp [Act.eval, Array.replicate]) ?_
 simp only [if_true]
 apply wpS_region
 simp [wpOpsS, go_sem, cU, hc, hz, bodyPostS, results, Tryz.results114]
theorem catchOc_idle (p : Addr) (w : World) :
  CallsD Tryz.prog 114 #[.pointer (some p)] .returning w fun e u' w' => e = .returned (.tuple #[]) ∧ u' = .returning ∧ w' = w := by
 refine callsD_of_wpS Tryz.func114 rfl fun c₀ cs hu => ?_
 apply wpS_seq
 apply wpS_region
 simp [wpOpsS, go_sem, recoverD, hu, Tryz.ntmps114, Exit.thenS]
 apply wpS_seq
 apply wpS_region
 simp [wpOpsS, go_sem, Exit.thenS]
 refine wpS_cond (t := false) (by simp [Act.eval, Array.replicate]) ?_
 simp only [Bool.false_eq_true, if_false]
 refine wpS_of_wp (wp_skip ?_)
 cases c₀
 simp_all [bodyPostS, results, Tryz.results114]
set_option maxHeartbeats 1000000 in
theorem caughtOc_ret (F : FuncId) (cap : Array Value) (hF : ∀ w, Sem.run Tryz.prog (callFunc F cap) w = .ok (.enter F cap) w) (P : Q4 → World → Prop) (n : Int) (w : World) (hP : ∀ q w' i u j, (j = w.heap.size ∨ j = w.heap.size + 1) → P q w' → P q (w'.setCell ⟨j, i, none⟩ u))
  (h : Calls Tryz.prog F cap ((w.alloc (.cells #[.slice none 0 0, .slice none 0 0, .slice none 0 0, .slice none 0 0, .int .i64 0] 107)).alloc (.cells #[.int .i64 0] 30)) fun e w' => ∃ q : Q4, e = .returned (.agg #[.slice q.sa q.sn q.sc, .slice q.ra q.rn q.rc, .slice q.wa q.wn q.tc, .slice q.va q.vn q.vc, .int .i64 n]) ∧ P q w' ∧ Below ((w.alloc (.cells #[.slice none 0 0, .slice none 0 0, .slice none 0 0, .slice none 0 0, .int .i64 0] 107)).alloc (.cells #[.int .i64 0] 30)).heap.size ((w.alloc (.cells #[.slice none 0 0, .slice none 0 0, .slice none 0 0, .slice none 0 0, .int .i64 0] 107)).alloc (.cells #[.int .i64 0] 30)) w') :
  Calls Tryz.prog 72 #[.func (.func F) #[] cap] w fun e w' => ∃ q : Q4, e = .returned (.tuple #[.agg #[.slice q.sa q.sn q.sc, .slice q.ra q.rn q.rc, .slice q.wa q.wn q.tc, .slice q.va q.vn q.vc, .int .i64 n], .int .i64 0]) ∧ P q w' ∧ Below w.heap.size w w' := by
 have hmf : ∀ (fn : Fn) (first cap : Array Value) (w : World), (Instr.makeFunc fn first cap).run Tryz.prog w = .ok (.func fn first cap) w := fun _ _ _ _ => rfl
 have H : Hid (Calls Tryz.prog F cap ((w.alloc (.cells #[.slice none 0 0, .slice none 0 0, .slice none 0 0, .slice none 0 0, .int .i64 0] 107)).alloc (.cells #[.int .i64 0] 30)) fun e w' => ∃ q : Q4, e = .returned (.agg #[.slice q.sa q.sn q.sc, .slice q.ra q.rn q.rc, .slice q.wa q.wn q.tc, .slice q.va q.vn q.vc, .int .i64 n]) ∧ P q w' ∧ Below ((w.alloc (.cells #[.slice none 0 0, .slice none 0 0, .slice none 0 0, .slice none 0 0, .int .i64 0] 107)).alloc (.cells #[.int .i64 0] 30)).heap.size ((w.alloc (.cells #[.slice none 0 0, .slice none 0 0, .slice none 0 0, .slice none 0 0, .int .i64 0] 107)).alloc (.cells #[.int .i64 0] 30)) w') := h
 have HP : Hid (∀ q w' i u j, (j = w.heap.size ∨ j = w.heap.size + 1) → P q w' → P q (w'.setCell ⟨j, i, none⟩ u)) := hP
 have HF : Hid (∀ w, Sem.run Tryz.prog (callFunc F cap) w = .ok (.enter F cap) w) := hF
 clear h hP hF
 go_enter_defers Tryz.func72, Tryz.ntmps72
 go_wp2_with fail
 rw [HF.out, Oper.upon_enter]
 refine H.out.mono ?_
 clear H
 rintro e w1 ⟨q, rfl, hq, hb⟩
 have e0 : w1.cell? ⟨w.heap.size + 1, 0, none⟩ = some (.int .i64 0) := aA hb (aE _ _ 30 _ 0 _ (by simp) rfl)
 have ef : ∀ j, w1.frozen? ⟨w.heap.size + 1, j, none⟩ = false := fun j => (hb.frozen (p := ⟨w.heap.size + 1, j, none⟩) (by simp)).trans (by simp)
 have c0 : w1.cell? ⟨w.heap.size, 0, none⟩ = some (.slice none 0 0) := aA hb (aA (aB (Below.refl _ _) _) (aE w _ 107 _ 0 _ rfl rfl))
 have c1 : w1.cell? ⟨w.heap.size, 1, none⟩ = some (.slice none 0 0) := aA hb (aA (aB (Below.refl _ _) _) (aE w _ 107 _ 1 _ rfl rfl))
 have c2 : w1.cell? ⟨w.heap.size, 2, none⟩ = some (.slice none 0 0) := aA hb (aA (aB (Below.refl _ _) _) (aE w _ 107 _ 2 _ rfl rfl))
 have c3 : w1.cell? ⟨w.heap.size, 3, none⟩ = some (.slice none 0 0) := aA hb (aA (aB (Below.refl _ _) _) (aE w _ 107 _ 3 _ rfl rfl))
 have c4 : w1.cell? ⟨w.heap.size, 4, none⟩ = some (.int .i64 0) := aA hb (aA (aB (Below.refl _ _) _) (aE w _ 107 _ 4 _ rfl rfl))
 have cf : ∀ j, w1.frozen? ⟨w.heap.size, j, none⟩ = false := fun j => (hb.frozen (p := ⟨w.heap.size, j, none⟩) (by simp; omega)).trans (((aB (Below.refl (w.alloc (.cells #[.slice none 0 0, .slice none 0 0, .slice none 0 0, .slice none 0 0, .int .i64 0] 107)).heap.size (w.alloc (.cells #[.slice none 0 0, .slice none 0 0, .slice none 0 0, .slice none 0 0, .int .i64 0] 107))) (.cells #[.int .i64 0] 30)).frozen (p := ⟨w.heap.size, j, none⟩) (by simp)).trans (by simp))
 have HV : Hid (P q w1) := hq
 have B1 : Hid (Below w.heap.size w w1) := aC (aB (aB (Below.refl _ _) _) _) hb
 clear hb hq
 go_wp2
 refine leaves_cons (f := 114) (args := #[.pointer (some ⟨w.heap.size + 1, 0, none⟩)]) (by simp) (by simp [go_sem]) ?_
 refine (catchOc_idle ⟨w.heap.size + 1, 0, none⟩ _).mono ?_
 rintro e u' w'' ⟨rfl, rfl, rfl⟩
 simp [Leaves, settle, results, Tryz.results72, go_sem, e0, c0, c1, c2, c3, c4]
 refine ⟨q, by simp, ?_, ?_⟩
 ·exact HP.out _ _ 0 _ _ (.inr rfl) (HP.out _ _ 4 _ _ (.inl rfl) (HP.out _ _ 3 _ _ (.inl rfl) (HP.out _ _ 2 _ _ (.inl rfl) (HP.out _ _ 1 _ _ (.inl rfl) (HP.out _ _ 0 _ _ (.inl rfl) HV.out)))))
 ·exact aG (aG (aG (aG (aG (aG B1.out (Nat.le_refl _) _) (Nat.le_refl _) _) (Nat.le_refl _) _) (Nat.le_refl _) _) (Nat.le_refl _) _) (by simp) _
set_option maxHeartbeats 1000000 in
theorem caughtOc_pan (F : FuncId) (cap : Array Value) (hF : ∀ w, Sem.run Tryz.prog (callFunc F cap) w = .ok (.enter F cap) w) (x : Int) (w : World)
  (h : Calls Tryz.prog F cap ((w.alloc (.cells #[.slice none 0 0, .slice none 0 0, .slice none 0 0, .slice none 0 0, .int .i64 0] 107)).alloc (.cells #[.int .i64 0] 30)) fun e w' => e = .panicked [{ v := .iface 30 (.int .i64 x), recovered := false }] ∧ Below ((w.alloc (.cells #[.slice none 0 0, .slice none 0 0, .slice none 0 0, .slice none 0 0, .int .i64 0] 107)).alloc (.cells #[.int .i64 0] 30)).heap.size ((w.alloc (.cells #[.slice none 0 0, .slice none 0 0, .slice none 0 0, .slice none 0 0, .int .i64 0] 107)).alloc (.cells #[.int .i64 0] 30)) w') :
  Calls Tryz.prog 72 #[.func (.func F) #[] cap] w fun e w' => e = .returned (.tuple #[.agg #[.slice none 0 0, .slice none 0 0, .slice none 0 0, .slice none 0 0, .int .i64 0], .int .i64 x]) ∧ Below w.heap.size w w' := by
 have hmf : ∀ (fn : Fn) (first cap : Array Value) (w : World), (Instr.makeFunc fn first cap).run Tryz.prog w = .ok (.func fn first cap) w := fun _ _ _ _ => rfl
 have H : Hid (Calls Tryz.prog F cap ((w.alloc (.cells #[.slice none 0 0, .slice none 0 0, .slice none 0 0, .slice none 0 0, .int .i64 0] 107)).alloc (.cells #[.int .i64 0] 30)) fun e w' => e = .panicked [{ v := .iface 30 (.int .i64 x), recovered := false }] ∧ Below ((w.alloc (.cells #[.slice none 0 0, .slice none 0 0, .slice none 0 0, .slice none 0 0, .int .i64 0] 107)).alloc (.cells #[.int .i64 0] 30)).heap.size ((w.alloc (.cells #[.slice none 0 0, .slice none 0 0, .slice none 0 0, .slice none 0 0, .int .i64 0] 107)).alloc (.cells #[.int .i64 0] 30)) w') := h
 have HF : Hid (∀ w, Sem.run Tryz.prog (callFunc F cap) w = .ok (.enter F cap) w) := hF
 clear h hF
 go_enter_defers Tryz.func72, Tryz.ntmps72
 go_wp2_with fail
 rw [HF.out, Oper.upon_enter]
 refine H.out.mono ?_
 clear H
 rintro e w1 ⟨rfl, hb⟩
 have e0 : w1.cell? ⟨w.heap.size + 1, 0, none⟩ = some (.int .i64 0) := aA hb (aE _ _ 30 _ 0 _ (by simp) rfl)
 have ef : w1.frozen? ⟨w.heap.size + 1, 0, none⟩ = false := (hb.frozen (p := ⟨w.heap.size + 1, 0, none⟩) (by simp)).trans (by simp)
 have c0 : w1.cell? ⟨w.heap.size, 0, none⟩ = some (.slice none 0 0) := aA hb (aA (aB (Below.refl _ _) _) (aE w _ 107 _ 0 _ rfl rfl))
 have c1 : w1.cell? ⟨w.heap.size, 1, none⟩ = some (.slice none 0 0) := aA hb (aA (aB (Below.refl _ _) _) (aE w _ 107 _ 1 _ rfl rfl))
 have c2 : w1.cell? ⟨w.heap.size, 2, none⟩ = some (.slice none 0 0) := aA hb (aA (aB (Below.refl _ _) _) (aE w _ 107 _ 2 _ rfl rfl))
 have c3 : w1.cell? ⟨w.heap.size, 3, none⟩ = some (.slice none 0 0) := aA hb (aA (aB (Below.refl _ _) _) (aE w _ 107 _ 3 _ rfl rfl))
 have c4 : w1.cell? ⟨w.heap.size, 4, none⟩ = some (.int .i64 0) := aA hb (aA (aB (Below.refl _ _) _) (aE w _ 107 _ 4 _ rfl rfl))
 have B1 : Below w.heap.size w w1 := aC (aB (aB (Below.refl _ _) _) _) hb
 clear hb
 refine leaves_cons (f := 114) (args := #[.pointer (some ⟨w.heap.size + 1, 0, none⟩)]) (by simp) (by simp [go_sem]) ?_
 refine (lL ⟨w.heap.size + 1, 0, none⟩ x 0 [] _ e0 ef).mono ?_
 rintro e u' w'' ⟨rfl, rfl, rfl⟩
 simp [Leaves, settle, results, Tryz.results72, go_sem, e0, c0, c1, c2, c3, c4]
 exact aG B1 (by simp) _
set_option maxHeartbeats 1000000 in
theorem rB (q : Q4) (x : Int) (hx : ¬ x = 0) (w : World) : Calls Tryz.prog 74 #[.agg #[.slice q.sa q.sn q.sc, .slice q.ra q.rn q.rc, .slice q.wa q.wn q.tc, .slice q.va q.vn q.vc], .int .i64 x] w fun e' w' => e' = .panicked [{ v := .iface 30 (.int .i64 x), recovered := false }] ∧ Below w.heap.size w w' := by
 have hW : Hid (Below w.heap.size w ((w.alloc (.cells #[.slice q.sa q.sn q.sc, .slice q.ra q.rn q.rc, .slice q.wa q.wn q.tc, .slice q.va q.vn q.vc] 29)).alloc (.cells #[.slice none 0 0, .slice none 0 0, .slice none 0 0, .slice none 0 0] 29))) := aB (aB (Below.refl _ _) _) _
 go_enter Tryz.func74, Tryz.ntmps74
 go_upto_region 1 with fail
 generalize ((w.alloc (.cells #[.slice q.sa q.sn q.sc, .slice q.ra q.rn q.rc, .slice q.wa q.wn q.tc, .slice q.va q.vn q.vc] 29)).alloc (.cells #[.slice none 0 0, .slice none 0 0, .slice none 0 0, .slice none 0 0] 29)) = W at *
 go_wp2_with fail
 refine (eK [x] 0 x _ 1 _ (by simp) (by simp) (by simp) rfl hx (dQ _ _ _ (by simp))).mono ?_
 rintro e w' ⟨rfl, rfl⟩
 go_wp2
 refine ⟨rfl, rfl, aC hW.out (aB (Below.refl _ _) _)⟩
def cW (m : Int) (l : List TxA) (s pk : List Int) : Int := aF [dX m l s, mpE pk.length]
def cR (m : Int) (l : List TxA) (s pk : List Int) : SA := if cW m l s pk = 0 then iJ m.toNat l pk s else SNil
def gE (m : Int) (l : List TxA) (s pk : List Int) : Nat := if cW m l s pk = 0 then aN m.toNat l else 0
variable (la : Option Addr) (lc : Nat) (l : List TxA) (sa : Option Addr) (sc : Nat) (s : List Int) (pa : Option Addr) (pc : Nat) (pk : List Int)
set_option maxHeartbeats 4000000 in
theorem play1_ok (m : Int) (p y z : Nat) (w : World) (p0 : w.cell? ⟨p, 0, none⟩ = some (.int .i64 m)) (p1 : w.cell? ⟨p, 1, none⟩ = some (.slice la l.length lc)) (y0 : w.cell? ⟨y, 0, none⟩ = some (.slice sa s.length sc)) (z0 : w.cell? ⟨z, 0, none⟩ = some (.slice pa pk.length pc)) (hl : IsTxs w la l) (hs : IsInts w sa s) (hp : IsInts w pa pk) (hpc : pk.length ≤ pc) (hw : ∀ i, i < pk.length → (Lit.int .i64 (pk.getD i 0)).wf = true) (he : dX m l s = 0) (hm : pk.length ≤ 200) :
  Calls Tryz.prog 73 #[.pointer (some ⟨p, 0, none⟩), .pointer (some ⟨y, 0, none⟩), .pointer (some ⟨z, 0, none⟩)] w fun e w' => ∃ q : Q4, e = .returned (.agg #[.slice q.sa q.sn q.sc, .slice q.ra q.rn q.rc, .slice q.wa q.wn q.tc, .slice q.va q.vn q.vc, .int .i64 (aN m.toNat l : Nat)]) ∧ StaF w.heap.size (iJ m.toNat l pk s) q w' ∧ Below w.heap.size w w' := by
 have mp : mpE pk.length = 0 := if_neg (by omega)
 obtain ⟨W, hWe⟩ : ∃ W : World, W = (w.alloc (.cells #[.slice none 0 0, .slice none 0 0, .slice none 0 0, .slice none 0 0, .int .i64 0] 107)) := ⟨_, rfl⟩
 have hW : Hid (Below w.heap.size w W) := by subst hWe; exact aB (Below.refl _ _) _
 have HL : Hid (IsTxs W la l) := hl.below hW.out
 have HS : Hid (IsInts W sa s) := hs.below hW.out
 have sz : Hid (W.heap.size = w.heap.size + 1) := by subst hWe; show _ = _; simp
 have SC : Hid (W.cell? ⟨w.heap.size, 0, none⟩ = some (.slice none 0 0) ∧ W.cell? ⟨w.heap.size, 1, none⟩ = some (.slice none 0 0) ∧ W.cell? ⟨w.heap.size, 2, none⟩ = some (.slice none 0 0) ∧ W.cell? ⟨w.heap.size, 3, none⟩ = some (.slice none 0 0) ∧ W.cell? ⟨w.heap.size, 4, none⟩ = some (.int .i64 0)) := by subst hWe; exact ⟨aE _ _ 107 _ 0 _ rfl rfl, aE _ _ 107 _ 1 _ rfl rfl, aE _ _ 107 _ 2 _ rfl rfl, aE _ _ 107 _ 3 _ rfl rfl, aE _ _ 107 _ 4 _ rfl rfl⟩
 have SF : Hid (∀ j, W.frozen? ⟨w.heap.size, j, none⟩ = false) := by subst hWe; exact fun j => aT _ _ 107 _ j rfl
 have a0 := aA hW.out p0
 have a1 := aA hW.out p1
 have b0 := aA hW.out y0
 have c0 := aA hW.out z0
 have HP : Hid (IsInts W pa pk) := hp.below hW.out
 have HE : Hid (dX m l s = 0) := he
 have HPC : Hid (pk.length ≤ pc) := hpc
 have HM : Hid (pk.length ≤ 200) := hm
 have HWF : Hid (∀ i, i < pk.length → (Lit.int .i64 (pk.getD i 0)).wf = true) := hw
 have MP : Hid (mpE pk.length = 0) := mp
 clear hl hs hp hpc hm hw he mp p0 p1 y0 z0
 have HWe : Hid (W = _) := hWe
 clear hWe
 go_enter Tryz.func73, Tryz.ntmps73
 go_upto_region 1 with fail
 rw [← HWe.out]
 clear HWe
 go_wp2_with fail
 refine (eT la lc l sa sc s m _ HL.out HS.out).mono ?_
 rintro e w1 ⟨q, rfl, hq, hb1⟩
 rw [HE.out]
 go_wp2_with fail
 refine (jI q _).mono ?_
 rintro e w2 ⟨rfl, hb2⟩
 have g2 : Hid (Below W.heap.size W (w2.alloc (.cells #[.slice q.sa q.sn q.sc, .slice q.ra q.rn q.rc, .slice q.wa q.wn q.tc, .slice q.va q.vn q.vc] 29))) := aC hb1 (aC hb2 (aB (Below.refl _ _) _))
 have hq2 : Hid (StaF W.heap.size (nL m l s) q (w2.alloc (.cells #[.slice q.sa q.sn q.sc, .slice q.ra q.rn q.rc, .slice q.wa q.wn q.tc, .slice q.va q.vn q.vc] 29))) := (hq.below hb2).below (aB (Below.refl _ _) _)
 have v0 : (w2.alloc (.cells #[.slice q.sa q.sn q.sc, .slice q.ra q.rn q.rc, .slice q.wa q.wn q.tc, .slice q.va q.vn q.vc] 29)).cell? ⟨w2.heap.size, 0, none⟩ = some (.slice q.sa q.sn q.sc) := aE _ _ 29 _ 0 _ rfl rfl
 have v1 : (w2.alloc (.cells #[.slice q.sa q.sn q.sc, .slice q.ra q.rn q.rc, .slice q.wa q.wn q.tc, .slice q.va q.vn q.vc] 29)).cell? ⟨w2.heap.size, 1, none⟩ = some (.slice q.ra q.rn q.rc) := aE _ _ 29 _ 1 _ rfl rfl
 have v2 : (w2.alloc (.cells #[.slice q.sa q.sn q.sc, .slice q.ra q.rn q.rc, .slice q.wa q.wn q.tc, .slice q.va q.vn q.vc] 29)).cell? ⟨w2.heap.size, 2, none⟩ = some (.slice q.wa q.wn q.tc) := aE _ _ 29 _ 2 _ rfl rfl
 have v3 : (w2.alloc (.cells #[.slice q.sa q.sn q.sc, .slice q.ra q.rn q.rc, .slice q.wa q.wn q.tc, .slice q.va q.vn q.vc] 29)).cell? ⟨w2.heap.size, 3, none⟩ = some (.slice q.va q.vn q.vc) := aE _ _ 29 _ 3 _ rfl rfl
 have a0 := aA g2.out a0
 have a1 := aA g2.out a1
 have c0 := aA g2.out c0
 clear hb1 hb2 hq b0
 go_upto_region 2 with fail
 generalize (w2.alloc (.cells #[.slice q.sa q.sn q.sc, .slice q.ra q.rn q.rc, .slice q.wa q.wn q.tc, .slice q.va q.vn q.vc] 29)) = V at *
 generalize w2.heap.size = B2 at *
 go_wp2_with fail
 refine (jV pa pk.length pc _).mono ?_
 rintro e w3 ⟨rfl, rfl⟩
 rw [MP.out]
 go_wp2_with fail
 refine (aV [0] _ 1 _ (by simp) rfl (dQ _ _ _ (by simp))).mono ?_
 rintro e w4 ⟨rfl, rfl⟩
 have gA : Below w3.heap.size w3 (w3.alloc (.cells #[.int .i64 0] 30)) := aB (Below.refl _ _) _
 have a0 := aA gA a0
 have a1 := aA gA a1
 have c0 := aA gA c0
 have v0 := aA gA v0
 have v1 := aA gA v1
 have v2 := aA gA v2
 have v3 := aA gA v3
 have g3 : Hid (Below W.heap.size W (w3.alloc (.cells #[.int .i64 0] 30))) := aC g2.out gA
 have hq3 : Hid (StaF W.heap.size (nL m l s) q (w3.alloc (.cells #[.int .i64 0] 30))) := hq2.out.below gA
 clear gA g2 hq2
 generalize w3.alloc (.cells #[.int .i64 0] 30) = X at *
 go_wp2_with fail
 refine (march_any la lc l pa pc pk s m q _ (HL.out.below g3.out) W.heap.size g3.out.size hq3.out (HP.out.below g3.out) HPC.out HWF.out HM.out HE.out).mono ?_
 rintro e w5 ⟨q5, rfl, h5, hb5⟩
 have B5 : Hid (Below W.heap.size W w5) := aC g3.out hb5
 obtain ⟨s0, s1, s2, s3, s4⟩ := SC.out
 have s0 := aA B5.out s0
 have s1 := aA B5.out s1
 have s2 := aA B5.out s2
 have s3 := aA B5.out s3
 have s4 := aA B5.out s4
 have sf : ∀ j, w5.frozen? ⟨w.heap.size, j, none⟩ = false := fun j => (B5.out.frozen (p := ⟨w.heap.size, j, none⟩) (by have := sz.out; show w.heap.size < _; omega)).trans (SF.out j)
 obtain ⟨y0, y1, y2, y3, y4⟩ := put5 q5 (aN m.toNat l : Nat) s0 s1 s2 s3 s4
 have HA : w.heap.size < W.heap.size := by have := sz.out; omega
 have HB : w.heap.size ≤ w.heap.size := Nat.le_refl _
 have FS : Hid (StaF w.heap.size (iJ m.toNat l pk s) q5 (((((w5.setCell ⟨w.heap.size, 0, none⟩ (.slice q5.sa q5.sn q5.sc)).setCell ⟨w.heap.size, 1, none⟩ (.slice q5.ra q5.rn q5.rc)).setCell ⟨w.heap.size, 2, none⟩ (.slice q5.wa q5.wn q5.tc)).setCell ⟨w.heap.size, 3, none⟩ (.slice q5.va q5.vn q5.vc)).setCell ⟨w.heap.size, 4, none⟩ (.int .i64 (aN m.toNat l : Nat)))) := (((((h5.set _ 0 _ HA).set _ 1 _ HA).set _ 2 _ HA).set _ 3 _ HA).set _ 4 _ HA).low (by omega)
 have FB : Hid (Below w.heap.size w (((((w5.setCell ⟨w.heap.size, 0, none⟩ (.slice q5.sa q5.sn q5.sc)).setCell ⟨w.heap.size, 1, none⟩ (.slice q5.ra q5.rn q5.rc)).setCell ⟨w.heap.size, 2, none⟩ (.slice q5.wa q5.wn q5.tc)).setCell ⟨w.heap.size, 3, none⟩ (.slice q5.va q5.vn q5.vc)).setCell ⟨w.heap.size, 4, none⟩ (.int .i64 (aN m.toNat l : Nat)))) := aG (aG (aG (aG (aG (aC hW.out B5.out) HB _) HB _) HB _) HB _) HB _
 go_wp2
 refine bodyPost_ret (v := .agg #[.slice q5.sa q5.sn q5.sc, .slice q5.ra q5.rn q5.rc, .slice q5.wa q5.wn q5.tc, .slice q5.va q5.vn q5.vc, .int .i64 (aN m.toNat l : Nat)]) (by simp [results, Tryz.results73, go_sem, y0, y1, y2, y3, y4]) rfl ⟨q5, rfl, FS.out, FB.out⟩
set_option maxHeartbeats 4000000 in
theorem play1_pan (m : Int) (p y z : Nat) (w : World) (p0 : w.cell? ⟨p, 0, none⟩ = some (.int .i64 m)) (p1 : w.cell? ⟨p, 1, none⟩ = some (.slice la l.length lc)) (y0 : w.cell? ⟨y, 0, none⟩ = some (.slice sa s.length sc)) (z0 : w.cell? ⟨z, 0, none⟩ = some (.slice pa pk.length pc)) (hl : IsTxs w la l) (hs : IsInts w sa s) (he : ¬ cW m l s pk = 0) :
  Calls Tryz.prog 73 #[.pointer (some ⟨p, 0, none⟩), .pointer (some ⟨y, 0, none⟩), .pointer (some ⟨z, 0, none⟩)] w fun e w' => e = .panicked [{ v := .iface 30 (.int .i64 (cW m l s pk)), recovered := false }] ∧ Below w.heap.size w w' := by
 have hW : Hid (Below w.heap.size w (w.alloc (.cells #[.slice none 0 0, .slice none 0 0, .slice none 0 0, .slice none 0 0, .int .i64 0] 107))) := aB (Below.refl _ _) _
 have HL : Hid (IsTxs (w.alloc (.cells #[.slice none 0 0, .slice none 0 0, .slice none 0 0, .slice none 0 0, .int .i64 0] 107)) la l) := hl.below hW.out
 have HS : Hid (IsInts (w.alloc (.cells #[.slice none 0 0, .slice none 0 0, .slice none 0 0, .slice none 0 0, .int .i64 0] 107)) sa s) := hs.below hW.out
 have sz : Hid ((w.alloc (.cells #[.slice none 0 0, .slice none 0 0, .slice none 0 0, .slice none 0 0, .int .i64 0] 107)).heap.size = w.heap.size + 1) := by show _ = _; simp
 have SC : Hid ((w.alloc (.cells #[.slice none 0 0, .slice none 0 0, .slice none 0 0, .slice none 0 0, .int .i64 0] 107)).cell? ⟨w.heap.size, 0, none⟩ = some (.slice none 0 0) ∧ (w.alloc (.cells #[.slice none 0 0, .slice none 0 0, .slice none 0 0, .slice none 0 0, .int .i64 0] 107)).cell? ⟨w.heap.size, 1, none⟩ = some (.slice none 0 0) ∧ (w.alloc (.cells #[.slice none 0 0, .slice none 0 0, .slice none 0 0, .slice none 0 0, .int .i64 0] 107)).cell? ⟨w.heap.size, 2, none⟩ = some (.slice none 0 0) ∧ (w.alloc (.cells #[.slice none 0 0, .slice none 0 0, .slice none 0 0, .slice none 0 0, .int .i64 0] 107)).cell? ⟨w.heap.size, 3, none⟩ = some (.slice none 0 0) ∧ (w.alloc (.cells #[.slice none 0 0, .slice none 0 0, .slice none 0 0, .slice none 0 0, .int .i64 0] 107)).cell? ⟨w.heap.size, 4, none⟩ = some (.int .i64 0)) := ⟨aE _ _ 107 _ 0 _ rfl rfl, aE _ _ 107 _ 1 _ rfl rfl, aE _ _ 107 _ 2 _ rfl rfl, aE _ _ 107 _ 3 _ rfl rfl, aE _ _ 107 _ 4 _ rfl rfl⟩
 have SF : Hid (∀ j, (w.alloc (.cells #[.slice none 0 0, .slice none 0 0, .slice none 0 0, .slice none 0 0, .int .i64 0] 107)).frozen? ⟨w.heap.size, j, none⟩ = false) := fun j => aT _ _ 107 _ j rfl
 have a0 := aA hW.out p0
 have a1 := aA hW.out p1
 have b0 := aA hW.out y0
 have c0 := aA hW.out z0
 clear hl hs p0 p1 y0 z0
 by_cases hz : dX m l s = 0
 ·have e1 : cW m l s pk = mpE pk.length := by unfold cW; rw [hz]; by_cases c : mpE pk.length = 0 <;> simp [aF, c]
  rw [e1] at he ⊢
  have HE : Hid (dX m l s = 0) := hz
  have MP : Hid (¬ mpE pk.length = 0) := he
  clear e1 hz he
  go_enter Tryz.func73, Tryz.ntmps73
  go_upto_region 1 with fail
  generalize (w.alloc (.cells #[.slice none 0 0, .slice none 0 0, .slice none 0 0, .slice none 0 0, .int .i64 0] 107)) = W at *
  go_wp2_with fail
  refine (eT la lc l sa sc s m _ HL.out HS.out).mono ?_
  rintro e w1 ⟨q, rfl, hq, hb1⟩
  rw [HE.out]
  go_wp2_with fail
  refine (jI q _).mono ?_
  rintro e w2 ⟨rfl, hb2⟩
  have g2 : Hid (Below W.heap.size W (w2.alloc (.cells #[.slice q.sa q.sn q.sc, .slice q.ra q.rn q.rc, .slice q.wa q.wn q.tc, .slice q.va q.vn q.vc] 29))) := aC hb1 (aC hb2 (aB (Below.refl _ _) _))
  have c0 := aA g2.out c0
  clear hb1 hb2 hq b0
  go_upto_region 2 with fail
  generalize (w2.alloc (.cells #[.slice q.sa q.sn q.sc, .slice q.ra q.rn q.rc, .slice q.wa q.wn q.tc, .slice q.va q.vn q.vc] 29)) = V at *
  go_wp2_with fail
  refine (jV pa pk.length pc _).mono ?_
  rintro e w3 ⟨rfl, rfl⟩
  generalize hx : mpE pk.length = x at *
  go_wp2_with fail
  refine (eK [x] 0 x _ 1 _ (by simp) (by simp) (by simp) rfl MP.out (dQ _ _ _ (by simp))).mono ?_
  rintro e w4 ⟨rfl, rfl⟩
  go_wp2
  exact ⟨rfl, by rw [hx], aC hW.out (aC g2.out (aB (Below.refl _ _) _))⟩
 ·have e1 : cW m l s pk = dX m l s := by unfold cW; simp [aF, hz]
  rw [e1]
  have HE : Hid (¬ dX m l s = 0) := hz
  clear e1 hz he
  go_enter Tryz.func73, Tryz.ntmps73
  go_upto_region 1 with fail
  generalize (w.alloc (.cells #[.slice none 0 0, .slice none 0 0, .slice none 0 0, .slice none 0 0, .int .i64 0] 107)) = W at *
  go_wp2_with fail
  refine (eT la lc l sa sc s m _ HL.out HS.out).mono ?_
  rintro e w1 ⟨q, rfl, hq, hb1⟩
  generalize hx : dX m l s = x at *
  go_wp2_with fail
  refine (rB q x HE.out _).mono ?_
  rintro e w2 ⟨rfl, hb2⟩
  go_wp2
  exact ⟨rfl, by rw [hx], aC hW.out (aC hb1 hb2)⟩
set_option maxHeartbeats 4000000 in
theorem play_any (m : Int) (w : World) (hl : IsTxs w la l) (hs : IsInts w sa s) (hp : IsInts w pa pk) (hpc : pk.length ≤ pc) (hw : ∀ i, i < pk.length → (Lit.int .i64 (pk.getD i 0)).wf = true) :
  Calls Tryz.prog 30 #[.agg #[.int .i64 m, .slice la l.length lc], .slice sa s.length sc, .slice pa pk.length pc] w fun e w' => ∃ q : Q4, e = .returned (.tuple #[.agg #[.slice q.sa q.sn q.sc, .slice q.ra q.rn q.rc, .slice q.wa q.wn q.tc, .slice q.va q.vn q.vc], .int .i64 (gE m l s pk : Nat), .int .i64 (cW m l s pk)]) ∧ StaF w.heap.size (cR m l s pk) q w' ∧ Below w.heap.size w w' := by
 obtain ⟨W, hWe⟩ : ∃ W : World, W = ((((w.alloc (.cells #[.int .i64 m, .slice la l.length lc] 24)).alloc (.cells #[.slice sa s.length sc] 25)).alloc (.cells #[.slice pa pk.length pc] 25)).alloc (.cells #[.slice none 0 0, .slice none 0 0, .slice none 0 0, .slice none 0 0] 29)) := ⟨_, rfl⟩
 have hU : Hid (Below w.heap.size w W) := by subst hWe; exact (aB (aB (aB (aB (Below.refl _ _) _) _) _) _)
 have sz : Hid (W.heap.size = w.heap.size + 4) := by subst hWe; show _ = _; simp
 have p0 : W.cell? ⟨w.heap.size, 0, none⟩ = some (.int .i64 m) := by subst hWe; exact aA (aB (aB (aB (Below.refl _ _) _) _) _) (aE _ _ 24 _ 0 _ rfl rfl)
 have p1 : W.cell? ⟨w.heap.size, 1, none⟩ = some (.slice la l.length lc) := by subst hWe; exact aA (aB (aB (aB (Below.refl _ _) _) _) _) (aE _ _ 24 _ 1 _ rfl rfl)
 have y0 : W.cell? ⟨w.heap.size + 1, 0, none⟩ = some (.slice sa s.length sc) := by subst hWe; exact aA (aB (aB (Below.refl _ _) _) _) (aE _ _ 25 _ 0 _ (by simp) rfl)
 have z0 : W.cell? ⟨w.heap.size + 2, 0, none⟩ = some (.slice pa pk.length pc) := by subst hWe; exact aA (aB (Below.refl _ _) _) (aE _ _ 25 _ 0 _ (by simp) rfl)
 have TC : Hid (W.cell? ⟨w.heap.size + 3, 0, none⟩ = some (.slice none 0 0) ∧ W.cell? ⟨w.heap.size + 3, 1, none⟩ = some (.slice none 0 0) ∧ W.cell? ⟨w.heap.size + 3, 2, none⟩ = some (.slice none 0 0) ∧ W.cell? ⟨w.heap.size + 3, 3, none⟩ = some (.slice none 0 0)) := by subst hWe; exact ⟨aE _ _ 29 _ 0 _ (by simp) rfl, aE _ _ 29 _ 1 _ (by simp) rfl, aE _ _ 29 _ 2 _ (by simp) rfl, aE _ _ 29 _ 3 _ (by simp) rfl⟩
 have TF : Hid (∀ j, W.frozen? ⟨w.heap.size + 3, j, none⟩ = false) := by subst hWe; exact fun j => aT _ _ 29 _ j (by simp)
 have hmf : ∀ (fn : Fn) (first cap : Array Value) (w : World), (Instr.makeFunc fn first cap).run Tryz.prog w = .ok (.func fn first cap) w := fun _ _ _ _ => rfl
 have CC : Hid (Calls Tryz.prog 72 #[.func (.func 73) #[] #[.pointer (some ⟨w.heap.size, 0, none⟩), .pointer (some ⟨w.heap.size + 1, 0, none⟩), .pointer (some ⟨w.heap.size + 2, 0, none⟩)]] W fun e w' => ∃ q : Q4, e = .returned (.tuple #[.agg #[.slice q.sa q.sn q.sc, .slice q.ra q.rn q.rc, .slice q.wa q.wn q.tc, .slice q.va q.vn q.vc, .int .i64 (gE m l s pk : Nat)], .int .i64 (cW m l s pk)]) ∧ StaF (w.heap.size + 4) (cR m l s pk) q w' ∧ Below W.heap.size W w') := by
  have g : Below W.heap.size W ((W.alloc (.cells #[.slice none 0 0, .slice none 0 0, .slice none 0 0, .slice none 0 0, .int .i64 0] 107)).alloc (.cells #[.int .i64 0] 30)) := aB (aB (Below.refl _ _) _) _
  have gz : ((W.alloc (.cells #[.slice none 0 0, .slice none 0 0, .slice none 0 0, .slice none 0 0, .int .i64 0] 107)).alloc (.cells #[.int .i64 0] 30)).heap.size = W.heap.size + 2 := by simp
  have p0 := aA g p0
  have p1 := aA g p1
  have y0 := aA g y0
  have z0 := aA g z0
  have hl' := hl.below (aC hU.out g)
  have hs' := hs.below (aC hU.out g)
  by_cases hE : cW m l s pk = 0
  ·have e1 : cR m l s pk = iJ m.toNat l pk s := if_pos hE
   have e2 : gE m l s pk = aN m.toNat l := if_pos hE
   have h' := bJ _ hE
   have h0 : dX m l s = 0 := h' 0
   have h1 : mpE pk.length = 0 := h' 1
   have hm : pk.length ≤ 200 := by
    by_cases c : pk.length ≤ 200
    ·exact c
    ·have : mpE pk.length = 2 := if_pos (by omega)
     omega
   rw [e1, e2, hE]
   refine (caughtOc_ret 73 _ (fun _ => rfl) (fun q w' => StaF (w.heap.size + 6) (iJ m.toNat l pk s) q w') (aN m.toNat l : Nat) W (fun q w' i u j hj h => h.set j i u (by have := sz.out; omega)) ((play1_ok la lc l sa sc s pa pc pk m _ _ _ _ p0 p1 y0 z0 hl' hs' (hp.below (aC hU.out g)) hpc hw h0 hm).mono ?_)).mono ?_
   ·rintro e w' ⟨q, rfl, ho, hb⟩
    exact ⟨q, rfl, ho.low (by rw [gz, sz.out]; omega), hb⟩
   ·rintro e w' ⟨q, rfl, ho, hb⟩
    exact ⟨q, rfl, ho.low (by omega), hb⟩
  ·have e1 : cR m l s pk = SNil := if_neg hE
   have e2 : gE m l s pk = 0 := if_neg hE
   rw [e1, e2]
   refine (caughtOc_pan 73 _ (fun _ => rfl) _ W (play1_pan la lc l sa sc s pa pc pk m _ _ _ _ p0 p1 y0 z0 hl' hs' hE)).mono ?_
   rintro e w' ⟨rfl, hb⟩
   exact ⟨qNil, rfl, gN _ _, hb⟩
 have HWe : Hid (W = _) := hWe
 clear p0 p1 y0 z0 hl hs hp hpc hw hWe
 go_enter Tryz.func30, Tryz.ntmps30
 go_upto_region 1 with fail
 rw [← HWe.out]
 clear HWe
 generalize hN : gE m l s pk = N at *
 generalize hE : cW m l s pk = E at *
 generalize hS : cR m l s pk = S at *
 go_wp2_with fail
 refine CC.out.mono ?_
 clear CC
 rintro e w1 ⟨q, rfl, hq, hb⟩
 have gO : Below w1.heap.size w1 (w1.alloc (.cells #[.slice q.sa q.sn q.sc, .slice q.ra q.rn q.rc, .slice q.wa q.wn q.tc, .slice q.va q.vn q.vc, .int .i64 (N : Nat)] 107)) := aB (Below.refl _ _) _
 have B1 : Hid (Below W.heap.size W (w1.alloc (.cells #[.slice q.sa q.sn q.sc, .slice q.ra q.rn q.rc, .slice q.wa q.wn q.tc, .slice q.va q.vn q.vc, .int .i64 (N : Nat)] 107))) := aC hb gO
 have HQ : Hid (StaF (w.heap.size + 4) S q (w1.alloc (.cells #[.slice q.sa q.sn q.sc, .slice q.ra q.rn q.rc, .slice q.wa q.wn q.tc, .slice q.va q.vn q.vc, .int .i64 (N : Nat)] 107))) := hq.below gO
 have o0 : (w1.alloc (.cells #[.slice q.sa q.sn q.sc, .slice q.ra q.rn q.rc, .slice q.wa q.wn q.tc, .slice q.va q.vn q.vc, .int .i64 (N : Nat)] 107)).cell? ⟨w1.heap.size, 0, none⟩ = some (.slice q.sa q.sn q.sc) := aE _ _ 107 _ 0 _ rfl rfl
 have o1 : (w1.alloc (.cells #[.slice q.sa q.sn q.sc, .slice q.ra q.rn q.rc, .slice q.wa q.wn q.tc, .slice q.va q.vn q.vc, .int .i64 (N : Nat)] 107)).cell? ⟨w1.heap.size, 1, none⟩ = some (.slice q.ra q.rn q.rc) := aE _ _ 107 _ 1 _ rfl rfl
 have o2 : (w1.alloc (.cells #[.slice q.sa q.sn q.sc, .slice q.ra q.rn q.rc, .slice q.wa q.wn q.tc, .slice q.va q.vn q.vc, .int .i64 (N : Nat)] 107)).cell? ⟨w1.heap.size, 2, none⟩ = some (.slice q.wa q.wn q.tc) := aE _ _ 107 _ 2 _ rfl rfl
 have o3 : (w1.alloc (.cells #[.slice q.sa q.sn q.sc, .slice q.ra q.rn q.rc, .slice q.wa q.wn q.tc, .slice q.va q.vn q.vc, .int .i64 (N : Nat)] 107)).cell? ⟨w1.heap.size, 3, none⟩ = some (.slice q.va q.vn q.vc) := aE _ _ 107 _ 3 _ rfl rfl
 have o4 : (w1.alloc (.cells #[.slice q.sa q.sn q.sc, .slice q.ra q.rn q.rc, .slice q.wa q.wn q.tc, .slice q.va q.vn q.vc, .int .i64 (N : Nat)] 107)).cell? ⟨w1.heap.size, 4, none⟩ = some (.int .i64 (N : Nat)) := aE _ _ 107 _ 4 _ rfl rfl
 have HS1 : Hid (W.heap.size ≤ w1.heap.size) := hb.size
 clear gO hb hq
 go_upto_region 2 with fail
 obtain ⟨t0, t1, t2, t3⟩ := TC.out
 have t0 := aA B1.out t0
 have t1 := aA B1.out t1
 have t2 := aA B1.out t2
 have t3 := aA B1.out t3
 have hne : w.heap.size + 3 ≠ w1.heap.size := by have := sz.out; have := HS1.out; omega
 have tf : ∀ j, (w1.alloc (.cells #[.slice q.sa q.sn q.sc, .slice q.ra q.rn q.rc, .slice q.wa q.wn q.tc, .slice q.va q.vn q.vc, .int .i64 (N : Nat)] 107)).frozen? ⟨w.heap.size + 3, j, none⟩ = false := fun j => (B1.out.frozen (p := ⟨w.heap.size + 3, j, none⟩) (by have := sz.out; show w.heap.size + 3 < _; omega)).trans (TF.out j)
 generalize (w1.alloc (.cells #[.slice q.sa q.sn q.sc, .slice q.ra q.rn q.rc, .slice q.wa q.wn q.tc, .slice q.va q.vn q.vc, .int .i64 (N : Nat)] 107)) = V at *
 generalize w1.heap.size = O at *
 obtain ⟨x0, x1, x2, x3⟩ := kZ q t0 t1 t2 t3
 have HA : w.heap.size + 3 < w.heap.size + 4 := by omega
 have HB : w.heap.size ≤ w.heap.size + 3 := by omega
 have FS : Hid (StaF w.heap.size S q ((((V.setCell ⟨w.heap.size + 3, 0, none⟩ (.slice q.sa q.sn q.sc)).setCell ⟨w.heap.size + 3, 1, none⟩ (.slice q.ra q.rn q.rc)).setCell ⟨w.heap.size + 3, 2, none⟩ (.slice q.wa q.wn q.tc)).setCell ⟨w.heap.size + 3, 3, none⟩ (.slice q.va q.vn q.vc))) := ((((HQ.out.set _ 0 _ HA).set _ 1 _ HA).set _ 2 _ HA).set _ 3 _ HA).low (by omega)
 have FB : Hid (Below w.heap.size w ((((V.setCell ⟨w.heap.size + 3, 0, none⟩ (.slice q.sa q.sn q.sc)).setCell ⟨w.heap.size + 3, 1, none⟩ (.slice q.ra q.rn q.rc)).setCell ⟨w.heap.size + 3, 2, none⟩ (.slice q.wa q.wn q.tc)).setCell ⟨w.heap.size + 3, 3, none⟩ (.slice q.va q.vn q.vc))) := aG (aG (aG (aG (aC hU.out B1.out) HB _) HB _) HB _) HB _
 have FS : Hid (StaF w.heap.size S q ((((V.setCell ⟨w.heap.size + 3, 0, none⟩ (.slice q.sa q.sn q.sc)).setCell ⟨w.heap.size + 3, 1, none⟩ (.slice q.ra q.rn q.rc)).setCell ⟨w.heap.size + 3, 2, none⟩ (.slice q.wa q.wn q.tc)).setCell ⟨w.heap.size + 3, 3, none⟩ (.slice q.va q.vn q.vc)).drew) := FS.out.below (aD (Below.refl _ _))
 have FB : Hid (Below w.heap.size w ((((V.setCell ⟨w.heap.size + 3, 0, none⟩ (.slice q.sa q.sn q.sc)).setCell ⟨w.heap.size + 3, 1, none⟩ (.slice q.ra q.rn q.rc)).setCell ⟨w.heap.size + 3, 2, none⟩ (.slice q.wa q.wn q.tc)).setCell ⟨w.heap.size + 3, 3, none⟩ (.slice q.va q.vn q.vc)).drew) := aD FB.out
 go_region
 go_wp2
 refine bodyPost_ret (v := .tuple #[.agg #[.slice q.sa q.sn q.sc, .slice q.ra q.rn q.rc, .slice q.wa q.wn q.tc, .slice q.va q.vn q.vc], .int .i64 (N : Nat), .int .i64 E]) (by simp [results, Tryz.results30, go_sem, x0, x1, x2, x3]) rfl ⟨q, by rw [hN, hE], by rw [hS]; exact FS.out, FB.out⟩
end Go.Proofs.YtebjkmknhpgemaaGreat
