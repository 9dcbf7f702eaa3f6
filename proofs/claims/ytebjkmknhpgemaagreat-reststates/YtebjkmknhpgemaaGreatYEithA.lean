/-
  
  Conditions: those that each theorem states.
-/
import Derived.Test.YtebjkmknhpgemaaGreatYBegB
import Derived.WalkKit
import Derived.WalkSpells
import Derived.WalkLawsBesides
import Derived.Defers
import Derived.Recover
import Derived.ProofKit
import Derived.Deep.RegionHeld
import Derived.Deep.RegionHeld3
import Derived.Deep.RegionLaw
import Derived.Deep.DeepCutAuto
import Derived.Deep.QuietTactic
import Derived.BigQuiet
import Derived.Maps.AppendAt
import Derived.Lib.SliceRun
import Derived.Deep.AppendLies
import Derived.Test.YtebjkmknhpgemaaGreatYBegA
import Derived.Test.YtebjkmknhpgemaaGreatYDocC
import Derived.Test.YtebjkmknhpgemaaGreatYPlaceF
import Derived.Test.YtebjkmknhpgemaaGreatYTxnB
import Derived.Test.YtebjkmknhpgemaaGreatYDocA
import Derived.Laws.StructEq
namespace Go.Proofs.YtebjkmknhpgemaaGreat
open Go.RowKit
def begS (m : Int) (l : List TxA) (s : List Int) : SA := if begE m l s = 0 then begX m.toNat l s else SNil
theorem begE_zero {m : Int} {l : List TxA} {s : List Int} (h : begE m l s = 0) : ∃ sh : Nat, m = sh ∧ 0 < sh ∧ sh ≤ 4 ∧ planE m l = 0 ∧ s.length = 8 := by
  have h' := firstNZ_zero _ h
  have h0 : planE m l = 0 := h' 0
  have h1 : lenE s = 0 := h' 1
  have hz := planE_zero h0
  refine ⟨m.toNat, by omega, by omega, by omega, h0, ?_⟩
  by_cases c : s.length = 8
  · exact c
  · have : lenE s = 1 := if_neg c
    omega
variable (la : Option Addr) (lc : Nat) (l : List TxA) (sa : Option Addr) (sc : Nat) (s : List Int)
set_option maxRecDepth 100000 in
set_option maxHeartbeats 2000000 in
theorem stepsBegin_any (m : Int) (w : World) (hl : IsTxs w la l) (hs : IsInts w sa s) :
    Calls Tryz.prog 14 #[.agg #[.int .i64 m, .slice la l.length lc], .slice sa s.length sc] w fun e w' => ∃ q : Q4, e = .returned (.tuple #[.agg #[.slice q.sa q.sn q.sc, .slice q.ra q.rn q.rc, .slice q.wa q.wn q.tc, .slice q.va q.vn q.vc], .int .i64 (begE m l s)]) ∧ StaF w.heap.size (begS m l s) q w' ∧ Below w.heap.size w w' := by
  have hg : Below w.heap.size w (((((w.alloc (.cells #[.int .i64 m, .slice la l.length lc] 24)).alloc (.cells #[.slice sa s.length sc] 25)).alloc (.cells #[.slice none 0 0, .slice none 0 0, .slice none 0 0, .slice none 0 0] 29)).alloc (.cells #[.slice none 0 0, .slice none 0 0, .slice none 0 0, .slice none 0 0] 29)).alloc (.cells #[.int .i64 0] 30)) := (grow_alloc (grow_alloc (grow_alloc (grow_alloc (grow_alloc (Below.refl _ _) _) _) _) _) _)
  have hU : Hid (Below w.heap.size w (((w.alloc (.cells #[.int .i64 m, .slice la l.length lc] 24)).alloc (.cells #[.slice sa s.length sc] 25)).alloc (.cells #[.slice none 0 0, .slice none 0 0, .slice none 0 0, .slice none 0 0] 29))) := (grow_alloc (grow_alloc (grow_alloc (Below.refl _ _) _) _) _)
  have hmf : ∀ (fn : Fn) (first cap : Array Value) (w : World), (Instr.makeFunc fn first cap).run Tryz.prog w = .ok (.func fn first cap) w := fun _ _ _ _ => rfl
  have p0 : (((((w.alloc (.cells #[.int .i64 m, .slice la l.length lc] 24)).alloc (.cells #[.slice sa s.length sc] 25)).alloc (.cells #[.slice none 0 0, .slice none 0 0, .slice none 0 0, .slice none 0 0] 29)).alloc (.cells #[.slice none 0 0, .slice none 0 0, .slice none 0 0, .slice none 0 0] 29)).alloc (.cells #[.int .i64 0] 30)).cell? ⟨w.heap.size, 0, none⟩ = some (.int .i64 m) := ext_cell (grow_alloc (grow_alloc (grow_alloc (grow_alloc (Below.refl _ _) _) _) _) _) (at_new _ _ 24 _ 0 _ (by first | rfl | simp) rfl)
  have p1 : (((((w.alloc (.cells #[.int .i64 m, .slice la l.length lc] 24)).alloc (.cells #[.slice sa s.length sc] 25)).alloc (.cells #[.slice none 0 0, .slice none 0 0, .slice none 0 0, .slice none 0 0] 29)).alloc (.cells #[.slice none 0 0, .slice none 0 0, .slice none 0 0, .slice none 0 0] 29)).alloc (.cells #[.int .i64 0] 30)).cell? ⟨w.heap.size, 1, none⟩ = some (.slice la l.length lc) := ext_cell (grow_alloc (grow_alloc (grow_alloc (grow_alloc (Below.refl _ _) _) _) _) _) (at_new _ _ 24 _ 1 _ (by first | rfl | simp) rfl)
  have q0 : (((((w.alloc (.cells #[.int .i64 m, .slice la l.length lc] 24)).alloc (.cells #[.slice sa s.length sc] 25)).alloc (.cells #[.slice none 0 0, .slice none 0 0, .slice none 0 0, .slice none 0 0] 29)).alloc (.cells #[.slice none 0 0, .slice none 0 0, .slice none 0 0, .slice none 0 0] 29)).alloc (.cells #[.int .i64 0] 30)).cell? ⟨w.heap.size + 1, 0, none⟩ = some (.slice sa s.length sc) := ext_cell (grow_alloc (grow_alloc (grow_alloc (Below.refl _ _) _) _) _) (at_new _ _ 25 _ 0 _ (by first | rfl | simp) rfl)
  have T0 : Hid (∀ j, j < 4 → (((w.alloc (.cells #[.int .i64 m, .slice la l.length lc] 24)).alloc (.cells #[.slice sa s.length sc] 25)).alloc (.cells #[.slice none 0 0, .slice none 0 0, .slice none 0 0, .slice none 0 0] 29)).cell? ⟨w.heap.size + 2, j, none⟩ = some (.slice none 0 0)) := fun j hj => by
    match j, hj with
    | 0, _ => exact at_new _ _ 29 _ 0 _ (by simp) rfl
    | 1, _ => exact at_new _ _ 29 _ 1 _ (by simp) rfl
    | 2, _ => exact at_new _ _ 29 _ 2 _ (by simp) rfl
    | 3, _ => exact at_new _ _ 29 _ 3 _ (by simp) rfl
  have TF : Hid (∀ j, (((w.alloc (.cells #[.int .i64 m, .slice la l.length lc] 24)).alloc (.cells #[.slice sa s.length sc] 25)).alloc (.cells #[.slice none 0 0, .slice none 0 0, .slice none 0 0, .slice none 0 0] 29)).frozen? ⟨w.heap.size + 2, j, none⟩ = false) := fun j => frozen_new _ _ 29 _ j (by simp)
  have sz : Hid ((((w.alloc (.cells #[.int .i64 m, .slice la l.length lc] 24)).alloc (.cells #[.slice sa s.length sc] 25)).alloc (.cells #[.slice none 0 0, .slice none 0 0, .slice none 0 0, .slice none 0 0] 29)).heap.size = w.heap.size + 3) := by show _ = _; simp
  have CC : Hid (Calls Tryz.prog 41 #[.func (.func 42) #[] #[.pointer (some ⟨w.heap.size, 0, none⟩), .pointer (some ⟨w.heap.size + 1, 0, none⟩)]] (((w.alloc (.cells #[.int .i64 m, .slice la l.length lc] 24)).alloc (.cells #[.slice sa s.length sc] 25)).alloc (.cells #[.slice none 0 0, .slice none 0 0, .slice none 0 0, .slice none 0 0] 29)) fun e w' => ∃ q : Q4, e = .returned (.tuple #[.agg #[.slice q.sa q.sn q.sc, .slice q.ra q.rn q.rc, .slice q.wa q.wn q.tc, .slice q.va q.vn q.vc], .int .i64 (begE m l s)]) ∧ StaF (w.heap.size + 3) (begS m l s) q w' ∧ Below (((w.alloc (.cells #[.int .i64 m, .slice la l.length lc] 24)).alloc (.cells #[.slice sa s.length sc] 25)).alloc (.cells #[.slice none 0 0, .slice none 0 0, .slice none 0 0, .slice none 0 0] 29)).heap.size (((w.alloc (.cells #[.int .i64 m, .slice la l.length lc] 24)).alloc (.cells #[.slice sa s.length sc] 25)).alloc (.cells #[.slice none 0 0, .slice none 0 0, .slice none 0 0, .slice none 0 0] 29)) w') := by
    by_cases hE : begE m l s = 0
    · have e2 : begS m l s = begX m.toNat l s := if_pos hE
      obtain ⟨sh, rfl, h0, _, _, _⟩ := begE_zero hE
      rw [e2, hE]
      refine (caughtSa_ret 42 _ (fun _ => rfl) (fun q w' => BegQ (w.heap.size + 5) l sh (begX sh l s) q w') _ (fun q w' i u j hj h => h.set j i u (by have := sz.out; omega)) ((beg1_ok la lc l sa sc s sh _ _ _ p0 p1 q0 (hl.below hg) (hs.below hg) hE).mono ?_)).mono ?_
      · rintro e w' ⟨q, rfl, ho, hb⟩
        exact ⟨q, rfl, ho.low (by simp), hb⟩
      · rintro e w' ⟨q, rfl, ho, hb⟩
        exact ⟨q, rfl, (ho.staF h0).low (by omega), hb⟩
    · have e2 : begS m l s = SNil := if_neg hE
      rw [e2]
      refine (caughtSa_pan 42 _ (fun _ => rfl) _ _ (beg1_pan la lc l sa sc s m _ _ _ p0 p1 q0 (hl.below hg) hE)).mono ?_
      rintro e w' ⟨rfl, hb⟩
      exact ⟨qNil, rfl, staF_nil _ _, hb⟩
  clear hg p0 p1 q0 hl hs
  go_enter Tryz.func14, Tryz.ntmps14
  go_upto_region 1 with fail
  generalize (((w.alloc (.cells #[.int .i64 m, .slice la l.length lc] 24)).alloc (.cells #[.slice sa s.length sc] 25)).alloc (.cells #[.slice none 0 0, .slice none 0 0, .slice none 0 0, .slice none 0 0] 29)) = W at *
  go_wp2_with fail
  refine CC.out.mono ?_
  clear CC
  rintro e w1 ⟨q, rfl, hq, hb⟩
  have t0 := ext_cell hb (T0.out 0 (by decide))
  have t1 := ext_cell hb (T0.out 1 (by decide))
  have t2 := ext_cell hb (T0.out 2 (by decide))
  have t3 := ext_cell hb (T0.out 3 (by decide))
  have tf : ∀ j, w1.frozen? ⟨w.heap.size + 2, j, none⟩ = false := fun j => (hb.frozen (p := ⟨w.heap.size + 2, j, none⟩) (by have := sz.out; show w.heap.size + 2 < _; omega)).trans (TF.out j)
  have FB : Hid (Below w.heap.size w ((((w1.setCell ⟨w.heap.size + 2, 0, none⟩ (.slice q.sa q.sn q.sc)).setCell ⟨w.heap.size + 2, 1, none⟩ (.slice q.ra q.rn q.rc)).setCell ⟨w.heap.size + 2, 2, none⟩ (.slice q.wa q.wn q.tc)).setCell ⟨w.heap.size + 2, 3, none⟩ (.slice q.va q.vn q.vc))) := grow_set (grow_set (grow_set (grow_set (grow_trans hU.out hb) (by simp) _) (by simp) _) (by simp) _) (by simp) _
  have FS : Hid (StaF w.heap.size (begS m l s) q ((((w1.setCell ⟨w.heap.size + 2, 0, none⟩ (.slice q.sa q.sn q.sc)).setCell ⟨w.heap.size + 2, 1, none⟩ (.slice q.ra q.rn q.rc)).setCell ⟨w.heap.size + 2, 2, none⟩ (.slice q.wa q.wn q.tc)).setCell ⟨w.heap.size + 2, 3, none⟩ (.slice q.va q.vn q.vc))) := ((((hq.set _ 0 _ (by omega)).set _ 1 _ (by omega)).set _ 2 _ (by omega)).set _ 3 _ (by omega)).low (by omega)
  clear hq hb T0 TF
  go_wp2_with fail
  have x0 : ((((w1.setCell ⟨w.heap.size + 2, 0, none⟩ (.slice q.sa q.sn q.sc)).setCell ⟨w.heap.size + 2, 1, none⟩ (.slice q.ra q.rn q.rc)).setCell ⟨w.heap.size + 2, 2, none⟩ (.slice q.wa q.wn q.tc)).setCell ⟨w.heap.size + 2, 3, none⟩ (.slice q.va q.vn q.vc)).cell? ⟨w.heap.size + 2, 0, none⟩ = some (.slice q.sa q.sn q.sc) := (set_off (by decide) (set_off (by decide) (set_off (by decide) (set_here t0))))
  have x1 : ((((w1.setCell ⟨w.heap.size + 2, 0, none⟩ (.slice q.sa q.sn q.sc)).setCell ⟨w.heap.size + 2, 1, none⟩ (.slice q.ra q.rn q.rc)).setCell ⟨w.heap.size + 2, 2, none⟩ (.slice q.wa q.wn q.tc)).setCell ⟨w.heap.size + 2, 3, none⟩ (.slice q.va q.vn q.vc)).cell? ⟨w.heap.size + 2, 1, none⟩ = some (.slice q.ra q.rn q.rc) := (set_off (by decide) (set_off (by decide) (set_here (set_off (by decide) t1))))
  have x2 : ((((w1.setCell ⟨w.heap.size + 2, 0, none⟩ (.slice q.sa q.sn q.sc)).setCell ⟨w.heap.size + 2, 1, none⟩ (.slice q.ra q.rn q.rc)).setCell ⟨w.heap.size + 2, 2, none⟩ (.slice q.wa q.wn q.tc)).setCell ⟨w.heap.size + 2, 3, none⟩ (.slice q.va q.vn q.vc)).cell? ⟨w.heap.size + 2, 2, none⟩ = some (.slice q.wa q.wn q.tc) := (set_off (by decide) (set_here (set_off (by decide) (set_off (by decide) t2))))
  have x3 : ((((w1.setCell ⟨w.heap.size + 2, 0, none⟩ (.slice q.sa q.sn q.sc)).setCell ⟨w.heap.size + 2, 1, none⟩ (.slice q.ra q.rn q.rc)).setCell ⟨w.heap.size + 2, 2, none⟩ (.slice q.wa q.wn q.tc)).setCell ⟨w.heap.size + 2, 3, none⟩ (.slice q.va q.vn q.vc)).cell? ⟨w.heap.size + 2, 3, none⟩ = some (.slice q.va q.vn q.vc) := (set_here (set_off (by decide) (set_off (by decide) (set_off (by decide) t3))))
  generalize ((((w1.setCell ⟨w.heap.size + 2, 0, none⟩ (.slice q.sa q.sn q.sc)).setCell ⟨w.heap.size + 2, 1, none⟩ (.slice q.ra q.rn q.rc)).setCell ⟨w.heap.size + 2, 2, none⟩ (.slice q.wa q.wn q.tc)).setCell ⟨w.heap.size + 2, 3, none⟩ (.slice q.va q.vn q.vc)) = WF at *
  refine bodyPost_ret (v := .tuple #[.agg #[.slice q.sa q.sn q.sc, .slice q.ra q.rn q.rc, .slice q.wa q.wn q.tc, .slice q.va q.vn q.vc], .int .i64 (begE m l s)]) (by simp [results, Tryz.results14, go_sem, x0, x1, x2, x3]) rfl ⟨q, rfl, FS.out, FB.out⟩
end Go.Proofs.YtebjkmknhpgemaaGreat
namespace Go.Proofs.YtebjkmknhpgemaaGreat
open Go.RowKit
/-- A state that was handed back, in memory of its own; or none. -/
def OwnP (C : Nat) (S : SA) (q : Q4) (w : World) : Prop := (∃ l sh, 0 < sh ∧ BegQ C l sh S q w) ∨ (S = SNil ∧ q = qNil)
theorem OwnP.nil (C : Nat) (w : World) : OwnP C SNil qNil w := .inr ⟨rfl, rfl⟩
theorem OwnP.beg {C : Nat} {l : List TxA} {sh : Nat} {S : SA} {q : Q4} {w : World} (h : BegQ C l sh S q w) (h0 : 0 < sh) : OwnP C S q w := .inl ⟨l, sh, h0, h⟩
theorem OwnP.own {C : Nat} {l : List TxA} {sh : Nat} {S : SA} {q : Q4} {w : World} (h : OwnQ C l sh S q w) (h0 : 0 < sh) : OwnP C S q w := by
  obtain ⟨e1, e2, e3, e4, g0, c1, c2, c3, hi, gr, gw, gv, Br, Bw, Bv, o⟩ := h
  have k1 := o.h1
  have k2 := o.h2
  have k3 := o.h3
  have k4 := o.h4
  have k5 := o.h5
  exact .inl ⟨l, sh, h0, e1, e2, e3, e4, o.f, g0, gr, gw, gv, Br, Bw, Bv, o.st, o.rd.mono (by omega) (by omega), o.wr.mono (by omega) (by omega), o.vs.mono (by omega) (by omega)⟩
theorem OwnP.set {C : Nat} {S : SA} {q : Q4} {w : World} (h : OwnP C S q w) (b j : Nat) (u : Value) (hb : b < C) : OwnP C S q (w.setCell ⟨b, j, none⟩ u) := by
  rcases h with ⟨l, sh, h0, h⟩ | h
  · exact .inl ⟨l, sh, h0, h.set b j u hb⟩
  · exact .inr h
theorem OwnP.low {C C' : Nat} {S : SA} {q : Q4} {w : World} (h : OwnP C S q w) (hc : C' ≤ C) : OwnP C' S q w := by
  rcases h with ⟨l, sh, h0, h⟩ | h
  · exact .inl ⟨l, sh, h0, h.low hc⟩
  · exact .inr h
theorem OwnP.sta {C : Nat} {S : SA} {q : Q4} {w : World} (h : OwnP C S q w) : StaQ S q w := by
  rcases h with ⟨l, sh, h0, h⟩ | ⟨rfl, rfl⟩
  · exact h.sta h0
  · exact staQ_nil w
section
variable (la : Option Addr) (lc : Nat) (l : List TxA) (sa ra wa va : Option Addr) (sc rc tc vc : Nat) (S : SA)
set_option maxRecDepth 100000 in
set_option maxHeartbeats 2000000 in
theorem stepsDo_own (m kd n k : Int) (w : World) (hl : IsTxs w la l) (hs : Sta w sa ra wa va S) :
    Calls Tryz.prog 26 #[.agg #[.int .i64 m, .slice la l.length lc], .agg #[.slice sa S.st.length sc, .slice ra S.rd.length rc, .slice wa S.wr.length tc, .slice va S.vs.length vc], .agg #[.int .i64 kd, .int .i64 n, .int .i64 k]] w fun e w' => ∃ q : Q4, e = .returned (.tuple #[.agg #[.slice q.sa q.sn q.sc, .slice q.ra q.rn q.rc, .slice q.wa q.wn q.tc, .slice q.va q.vn q.vc], .int .i64 (doE m l S kd n k)]) ∧ OwnP w.heap.size (doS m l S kd n k) q w' ∧ Below w.heap.size w w' := by
  have hg : Below w.heap.size w ((((((w.alloc (.cells #[.int .i64 m, .slice la l.length lc] 24)).alloc (.cells #[.slice sa S.st.length sc, .slice ra S.rd.length rc, .slice wa S.wr.length tc, .slice va S.vs.length vc] 29)).alloc (.cells #[.int .i64 kd, .int .i64 n, .int .i64 k] 48)).alloc (.cells #[.slice none 0 0, .slice none 0 0, .slice none 0 0, .slice none 0 0] 29)).alloc (.cells #[.slice none 0 0, .slice none 0 0, .slice none 0 0, .slice none 0 0] 29)).alloc (.cells #[.int .i64 0] 30)) := (grow_alloc (grow_alloc (grow_alloc (grow_alloc (grow_alloc (grow_alloc (Below.refl _ _) _) _) _) _) _) _)
  have hU : Hid (Below w.heap.size w ((((w.alloc (.cells #[.int .i64 m, .slice la l.length lc] 24)).alloc (.cells #[.slice sa S.st.length sc, .slice ra S.rd.length rc, .slice wa S.wr.length tc, .slice va S.vs.length vc] 29)).alloc (.cells #[.int .i64 kd, .int .i64 n, .int .i64 k] 48)).alloc (.cells #[.slice none 0 0, .slice none 0 0, .slice none 0 0, .slice none 0 0] 29))) := (grow_alloc (grow_alloc (grow_alloc (grow_alloc (Below.refl _ _) _) _) _) _)
  have hmf : ∀ (fn : Fn) (first cap : Array Value) (w : World), (Instr.makeFunc fn first cap).run Tryz.prog w = .ok (.func fn first cap) w := fun _ _ _ _ => rfl
  have p0 : ((((((w.alloc (.cells #[.int .i64 m, .slice la l.length lc] 24)).alloc (.cells #[.slice sa S.st.length sc, .slice ra S.rd.length rc, .slice wa S.wr.length tc, .slice va S.vs.length vc] 29)).alloc (.cells #[.int .i64 kd, .int .i64 n, .int .i64 k] 48)).alloc (.cells #[.slice none 0 0, .slice none 0 0, .slice none 0 0, .slice none 0 0] 29)).alloc (.cells #[.slice none 0 0, .slice none 0 0, .slice none 0 0, .slice none 0 0] 29)).alloc (.cells #[.int .i64 0] 30)).cell? ⟨w.heap.size, 0, none⟩ = some (.int .i64 m) := ext_cell (grow_alloc (grow_alloc (grow_alloc (grow_alloc (grow_alloc (Below.refl _ _) _) _) _) _) _) (at_new _ _ 24 _ 0 _ (by first | rfl | simp) rfl)
  have p1 : ((((((w.alloc (.cells #[.int .i64 m, .slice la l.length lc] 24)).alloc (.cells #[.slice sa S.st.length sc, .slice ra S.rd.length rc, .slice wa S.wr.length tc, .slice va S.vs.length vc] 29)).alloc (.cells #[.int .i64 kd, .int .i64 n, .int .i64 k] 48)).alloc (.cells #[.slice none 0 0, .slice none 0 0, .slice none 0 0, .slice none 0 0] 29)).alloc (.cells #[.slice none 0 0, .slice none 0 0, .slice none 0 0, .slice none 0 0] 29)).alloc (.cells #[.int .i64 0] 30)).cell? ⟨w.heap.size, 1, none⟩ = some (.slice la l.length lc) := ext_cell (grow_alloc (grow_alloc (grow_alloc (grow_alloc (grow_alloc (Below.refl _ _) _) _) _) _) _) (at_new _ _ 24 _ 1 _ (by first | rfl | simp) rfl)
  have q0 : ((((((w.alloc (.cells #[.int .i64 m, .slice la l.length lc] 24)).alloc (.cells #[.slice sa S.st.length sc, .slice ra S.rd.length rc, .slice wa S.wr.length tc, .slice va S.vs.length vc] 29)).alloc (.cells #[.int .i64 kd, .int .i64 n, .int .i64 k] 48)).alloc (.cells #[.slice none 0 0, .slice none 0 0, .slice none 0 0, .slice none 0 0] 29)).alloc (.cells #[.slice none 0 0, .slice none 0 0, .slice none 0 0, .slice none 0 0] 29)).alloc (.cells #[.int .i64 0] 30)).cell? ⟨w.heap.size + 1, 0, none⟩ = some (.slice sa S.st.length sc) := ext_cell (grow_alloc (grow_alloc (grow_alloc (grow_alloc (Below.refl _ _) _) _) _) _) (at_new _ _ 29 _ 0 _ (by first | rfl | simp) rfl)
  have q1 : ((((((w.alloc (.cells #[.int .i64 m, .slice la l.length lc] 24)).alloc (.cells #[.slice sa S.st.length sc, .slice ra S.rd.length rc, .slice wa S.wr.length tc, .slice va S.vs.length vc] 29)).alloc (.cells #[.int .i64 kd, .int .i64 n, .int .i64 k] 48)).alloc (.cells #[.slice none 0 0, .slice none 0 0, .slice none 0 0, .slice none 0 0] 29)).alloc (.cells #[.slice none 0 0, .slice none 0 0, .slice none 0 0, .slice none 0 0] 29)).alloc (.cells #[.int .i64 0] 30)).cell? ⟨w.heap.size + 1, 1, none⟩ = some (.slice ra S.rd.length rc) := ext_cell (grow_alloc (grow_alloc (grow_alloc (grow_alloc (Below.refl _ _) _) _) _) _) (at_new _ _ 29 _ 1 _ (by first | rfl | simp) rfl)
  have q2 : ((((((w.alloc (.cells #[.int .i64 m, .slice la l.length lc] 24)).alloc (.cells #[.slice sa S.st.length sc, .slice ra S.rd.length rc, .slice wa S.wr.length tc, .slice va S.vs.length vc] 29)).alloc (.cells #[.int .i64 kd, .int .i64 n, .int .i64 k] 48)).alloc (.cells #[.slice none 0 0, .slice none 0 0, .slice none 0 0, .slice none 0 0] 29)).alloc (.cells #[.slice none 0 0, .slice none 0 0, .slice none 0 0, .slice none 0 0] 29)).alloc (.cells #[.int .i64 0] 30)).cell? ⟨w.heap.size + 1, 2, none⟩ = some (.slice wa S.wr.length tc) := ext_cell (grow_alloc (grow_alloc (grow_alloc (grow_alloc (Below.refl _ _) _) _) _) _) (at_new _ _ 29 _ 2 _ (by first | rfl | simp) rfl)
  have q3 : ((((((w.alloc (.cells #[.int .i64 m, .slice la l.length lc] 24)).alloc (.cells #[.slice sa S.st.length sc, .slice ra S.rd.length rc, .slice wa S.wr.length tc, .slice va S.vs.length vc] 29)).alloc (.cells #[.int .i64 kd, .int .i64 n, .int .i64 k] 48)).alloc (.cells #[.slice none 0 0, .slice none 0 0, .slice none 0 0, .slice none 0 0] 29)).alloc (.cells #[.slice none 0 0, .slice none 0 0, .slice none 0 0, .slice none 0 0] 29)).alloc (.cells #[.int .i64 0] 30)).cell? ⟨w.heap.size + 1, 3, none⟩ = some (.slice va S.vs.length vc) := ext_cell (grow_alloc (grow_alloc (grow_alloc (grow_alloc (Below.refl _ _) _) _) _) _) (at_new _ _ 29 _ 3 _ (by first | rfl | simp) rfl)
  have r0 : ((((((w.alloc (.cells #[.int .i64 m, .slice la l.length lc] 24)).alloc (.cells #[.slice sa S.st.length sc, .slice ra S.rd.length rc, .slice wa S.wr.length tc, .slice va S.vs.length vc] 29)).alloc (.cells #[.int .i64 kd, .int .i64 n, .int .i64 k] 48)).alloc (.cells #[.slice none 0 0, .slice none 0 0, .slice none 0 0, .slice none 0 0] 29)).alloc (.cells #[.slice none 0 0, .slice none 0 0, .slice none 0 0, .slice none 0 0] 29)).alloc (.cells #[.int .i64 0] 30)).cell? ⟨w.heap.size + 2, 0, none⟩ = some (.int .i64 kd) := ext_cell (grow_alloc (grow_alloc (grow_alloc (Below.refl _ _) _) _) _) (at_new _ _ 48 _ 0 _ (by first | rfl | simp) rfl)
  have r1 : ((((((w.alloc (.cells #[.int .i64 m, .slice la l.length lc] 24)).alloc (.cells #[.slice sa S.st.length sc, .slice ra S.rd.length rc, .slice wa S.wr.length tc, .slice va S.vs.length vc] 29)).alloc (.cells #[.int .i64 kd, .int .i64 n, .int .i64 k] 48)).alloc (.cells #[.slice none 0 0, .slice none 0 0, .slice none 0 0, .slice none 0 0] 29)).alloc (.cells #[.slice none 0 0, .slice none 0 0, .slice none 0 0, .slice none 0 0] 29)).alloc (.cells #[.int .i64 0] 30)).cell? ⟨w.heap.size + 2, 1, none⟩ = some (.int .i64 n) := ext_cell (grow_alloc (grow_alloc (grow_alloc (Below.refl _ _) _) _) _) (at_new _ _ 48 _ 1 _ (by first | rfl | simp) rfl)
  have r2 : ((((((w.alloc (.cells #[.int .i64 m, .slice la l.length lc] 24)).alloc (.cells #[.slice sa S.st.length sc, .slice ra S.rd.length rc, .slice wa S.wr.length tc, .slice va S.vs.length vc] 29)).alloc (.cells #[.int .i64 kd, .int .i64 n, .int .i64 k] 48)).alloc (.cells #[.slice none 0 0, .slice none 0 0, .slice none 0 0, .slice none 0 0] 29)).alloc (.cells #[.slice none 0 0, .slice none 0 0, .slice none 0 0, .slice none 0 0] 29)).alloc (.cells #[.int .i64 0] 30)).cell? ⟨w.heap.size + 2, 2, none⟩ = some (.int .i64 k) := ext_cell (grow_alloc (grow_alloc (grow_alloc (Below.refl _ _) _) _) _) (at_new _ _ 48 _ 2 _ (by first | rfl | simp) rfl)
  have T0 : Hid (∀ j, j < 4 → ((((w.alloc (.cells #[.int .i64 m, .slice la l.length lc] 24)).alloc (.cells #[.slice sa S.st.length sc, .slice ra S.rd.length rc, .slice wa S.wr.length tc, .slice va S.vs.length vc] 29)).alloc (.cells #[.int .i64 kd, .int .i64 n, .int .i64 k] 48)).alloc (.cells #[.slice none 0 0, .slice none 0 0, .slice none 0 0, .slice none 0 0] 29)).cell? ⟨w.heap.size + 3, j, none⟩ = some (.slice none 0 0)) := fun j hj => by
    match j, hj with
    | 0, _ => exact at_new _ _ 29 _ 0 _ (by simp) rfl
    | 1, _ => exact at_new _ _ 29 _ 1 _ (by simp) rfl
    | 2, _ => exact at_new _ _ 29 _ 2 _ (by simp) rfl
    | 3, _ => exact at_new _ _ 29 _ 3 _ (by simp) rfl
  have TF : Hid (∀ j, ((((w.alloc (.cells #[.int .i64 m, .slice la l.length lc] 24)).alloc (.cells #[.slice sa S.st.length sc, .slice ra S.rd.length rc, .slice wa S.wr.length tc, .slice va S.vs.length vc] 29)).alloc (.cells #[.int .i64 kd, .int .i64 n, .int .i64 k] 48)).alloc (.cells #[.slice none 0 0, .slice none 0 0, .slice none 0 0, .slice none 0 0] 29)).frozen? ⟨w.heap.size + 3, j, none⟩ = false) := fun j => frozen_new _ _ 29 _ j (by simp)
  have sz : Hid (((((w.alloc (.cells #[.int .i64 m, .slice la l.length lc] 24)).alloc (.cells #[.slice sa S.st.length sc, .slice ra S.rd.length rc, .slice wa S.wr.length tc, .slice va S.vs.length vc] 29)).alloc (.cells #[.int .i64 kd, .int .i64 n, .int .i64 k] 48)).alloc (.cells #[.slice none 0 0, .slice none 0 0, .slice none 0 0, .slice none 0 0] 29)).heap.size = w.heap.size + 4) := by show _ = _; simp
  have CC : Hid (Calls Tryz.prog 41 #[.func (.func 66) #[] #[.pointer (some ⟨w.heap.size, 0, none⟩), .pointer (some ⟨w.heap.size + 1, 0, none⟩), .pointer (some ⟨w.heap.size + 2, 0, none⟩)]] ((((w.alloc (.cells #[.int .i64 m, .slice la l.length lc] 24)).alloc (.cells #[.slice sa S.st.length sc, .slice ra S.rd.length rc, .slice wa S.wr.length tc, .slice va S.vs.length vc] 29)).alloc (.cells #[.int .i64 kd, .int .i64 n, .int .i64 k] 48)).alloc (.cells #[.slice none 0 0, .slice none 0 0, .slice none 0 0, .slice none 0 0] 29)) fun e w' => ∃ q : Q4, e = .returned (.tuple #[.agg #[.slice q.sa q.sn q.sc, .slice q.ra q.rn q.rc, .slice q.wa q.wn q.tc, .slice q.va q.vn q.vc], .int .i64 (doE m l S kd n k)]) ∧ OwnP (w.heap.size + 4) (doS m l S kd n k) q w' ∧ Below ((((w.alloc (.cells #[.int .i64 m, .slice la l.length lc] 24)).alloc (.cells #[.slice sa S.st.length sc, .slice ra S.rd.length rc, .slice wa S.wr.length tc, .slice va S.vs.length vc] 29)).alloc (.cells #[.int .i64 kd, .int .i64 n, .int .i64 k] 48)).alloc (.cells #[.slice none 0 0, .slice none 0 0, .slice none 0 0, .slice none 0 0] 29)).heap.size ((((w.alloc (.cells #[.int .i64 m, .slice la l.length lc] 24)).alloc (.cells #[.slice sa S.st.length sc, .slice ra S.rd.length rc, .slice wa S.wr.length tc, .slice va S.vs.length vc] 29)).alloc (.cells #[.int .i64 kd, .int .i64 n, .int .i64 k] 48)).alloc (.cells #[.slice none 0 0, .slice none 0 0, .slice none 0 0, .slice none 0 0] 29)) w') := by
    by_cases hE : stE m l S = 0
    · obtain ⟨sh, rfl, h0, _⟩ := stE_zero hE
      have e1 : doE (sh : Int) l S kd n k = stepE sh l S kd n k := by unfold doE; rw [if_pos hE]; rfl
      by_cases hT : stepE sh l S kd n k = 0
      · have e2 : doS (sh : Int) l S kd n k = doX sh l S kd.toNat n.toNat k.toNat := by unfold doS; rw [e1, if_pos hT]; rfl
        rw [e1, e2, hT]
        obtain ⟨K, N, k', rfl, rfl, rfl, hK, hN, hk, _⟩ := stepE_zero hT
        refine (caughtSa_ret 66 _ (fun _ => rfl) (fun q w' => OwnQ (w.heap.size + 6) l sh (doX sh l S K N k') q w') _ (fun q w' i u j hj h => h.set j i u (by have := sz.out; omega)) ((do1_ok la lc l sa ra wa va sc rc tc vc S sh K N k' _ _ _ _ p0 p1 q0 q1 q2 q3 r0 r1 r2 (hl.below hg) (hs.below hg) hE hT hK hN hk).mono ?_)).mono ?_
        · rintro e w' ⟨sa', ra', wa', va', sc', rc', tc', vc', g0, c1, c2, c3, hi, gr, gw, gv, Br, Bw, Bv, rfl, ho, hb⟩
          refine ⟨⟨sa', ra', wa', va', 8, l.length, l.length, l.length, sc', rc', tc', vc'⟩, rfl, ⟨rfl, rfl, rfl, rfl, g0, c1, c2, c3, hi, gr, gw, gv, Br, Bw, Bv, ho.low (by first | exact Nat.le_refl _ | simp)⟩, hb⟩
        · rintro e w' ⟨q, rfl, ho, hb⟩
          exact ⟨q, rfl, (OwnP.own ho h0).low (by omega), hb⟩
      · have e2 : doS (sh : Int) l S kd n k = SNil := by unfold doS; rw [e1, if_neg hT]
        rw [e1, e2]
        refine (caughtSa_pan 66 _ (fun _ => rfl) _ _ (do1_step la lc l sa ra wa va sc rc tc vc S sh kd n k _ _ _ _ p0 p1 q0 q1 q2 q3 r0 r1 r2 (hl.below hg) (hs.below hg) hE hT)).mono ?_
        rintro e w' ⟨rfl, hb⟩
        exact ⟨qNil, rfl, OwnP.nil _ _, hb⟩
    · have e1 : doE m l S kd n k = stE m l S := by unfold doE; rw [if_neg hE]
      have e2 : doS m l S kd n k = SNil := by unfold doS; rw [e1, if_neg hE]
      rw [e1, e2]
      refine (caughtSa_pan 66 _ (fun _ => rfl) _ _ (do1_pan la lc l sa ra wa va sc rc tc vc S m _ _ _ _ p0 p1 q0 q1 q2 q3 (hl.below hg) (hs.below hg) hE)).mono ?_
      rintro e w' ⟨rfl, hb⟩
      exact ⟨qNil, rfl, OwnP.nil _ _, hb⟩
  clear hg p0 p1 q0 q1 q2 q3 r0 r1 r2 hl hs
  go_enter Tryz.func26, Tryz.ntmps26
  go_upto_region 1 with fail
  generalize ((((w.alloc (.cells #[.int .i64 m, .slice la l.length lc] 24)).alloc (.cells #[.slice sa S.st.length sc, .slice ra S.rd.length rc, .slice wa S.wr.length tc, .slice va S.vs.length vc] 29)).alloc (.cells #[.int .i64 kd, .int .i64 n, .int .i64 k] 48)).alloc (.cells #[.slice none 0 0, .slice none 0 0, .slice none 0 0, .slice none 0 0] 29)) = W at *
  go_wp2_with fail
  refine CC.out.mono ?_
  clear CC
  rintro e w1 ⟨q, rfl, hq, hb⟩
  have t0 := ext_cell hb (T0.out 0 (by decide))
  have t1 := ext_cell hb (T0.out 1 (by decide))
  have t2 := ext_cell hb (T0.out 2 (by decide))
  have t3 := ext_cell hb (T0.out 3 (by decide))
  have tf : ∀ j, w1.frozen? ⟨w.heap.size + 3, j, none⟩ = false := fun j => (hb.frozen (p := ⟨w.heap.size + 3, j, none⟩) (by have := sz.out; show w.heap.size + 3 < _; omega)).trans (TF.out j)
  have FB : Hid (Below w.heap.size w ((((w1.setCell ⟨w.heap.size + 3, 0, none⟩ (.slice q.sa q.sn q.sc)).setCell ⟨w.heap.size + 3, 1, none⟩ (.slice q.ra q.rn q.rc)).setCell ⟨w.heap.size + 3, 2, none⟩ (.slice q.wa q.wn q.tc)).setCell ⟨w.heap.size + 3, 3, none⟩ (.slice q.va q.vn q.vc))) := grow_set (grow_set (grow_set (grow_set (grow_trans hU.out hb) (by simp) _) (by simp) _) (by simp) _) (by simp) _
  have FS : Hid (OwnP w.heap.size (doS m l S kd n k) q ((((w1.setCell ⟨w.heap.size + 3, 0, none⟩ (.slice q.sa q.sn q.sc)).setCell ⟨w.heap.size + 3, 1, none⟩ (.slice q.ra q.rn q.rc)).setCell ⟨w.heap.size + 3, 2, none⟩ (.slice q.wa q.wn q.tc)).setCell ⟨w.heap.size + 3, 3, none⟩ (.slice q.va q.vn q.vc))) := ((((hq.set _ 0 _ (by omega)).set _ 1 _ (by omega)).set _ 2 _ (by omega)).set _ 3 _ (by omega)).low (by omega)
  clear hq hb T0 TF
  go_wp2_with fail
  have x0 : ((((w1.setCell ⟨w.heap.size + 3, 0, none⟩ (.slice q.sa q.sn q.sc)).setCell ⟨w.heap.size + 3, 1, none⟩ (.slice q.ra q.rn q.rc)).setCell ⟨w.heap.size + 3, 2, none⟩ (.slice q.wa q.wn q.tc)).setCell ⟨w.heap.size + 3, 3, none⟩ (.slice q.va q.vn q.vc)).cell? ⟨w.heap.size + 3, 0, none⟩ = some (.slice q.sa q.sn q.sc) := (set_off (by decide) (set_off (by decide) (set_off (by decide) (set_here t0))))
  have x1 : ((((w1.setCell ⟨w.heap.size + 3, 0, none⟩ (.slice q.sa q.sn q.sc)).setCell ⟨w.heap.size + 3, 1, none⟩ (.slice q.ra q.rn q.rc)).setCell ⟨w.heap.size + 3, 2, none⟩ (.slice q.wa q.wn q.tc)).setCell ⟨w.heap.size + 3, 3, none⟩ (.slice q.va q.vn q.vc)).cell? ⟨w.heap.size + 3, 1, none⟩ = some (.slice q.ra q.rn q.rc) := (set_off (by decide) (set_off (by decide) (set_here (set_off (by decide) t1))))
  have x2 : ((((w1.setCell ⟨w.heap.size + 3, 0, none⟩ (.slice q.sa q.sn q.sc)).setCell ⟨w.heap.size + 3, 1, none⟩ (.slice q.ra q.rn q.rc)).setCell ⟨w.heap.size + 3, 2, none⟩ (.slice q.wa q.wn q.tc)).setCell ⟨w.heap.size + 3, 3, none⟩ (.slice q.va q.vn q.vc)).cell? ⟨w.heap.size + 3, 2, none⟩ = some (.slice q.wa q.wn q.tc) := (set_off (by decide) (set_here (set_off (by decide) (set_off (by decide) t2))))
  have x3 : ((((w1.setCell ⟨w.heap.size + 3, 0, none⟩ (.slice q.sa q.sn q.sc)).setCell ⟨w.heap.size + 3, 1, none⟩ (.slice q.ra q.rn q.rc)).setCell ⟨w.heap.size + 3, 2, none⟩ (.slice q.wa q.wn q.tc)).setCell ⟨w.heap.size + 3, 3, none⟩ (.slice q.va q.vn q.vc)).cell? ⟨w.heap.size + 3, 3, none⟩ = some (.slice q.va q.vn q.vc) := (set_here (set_off (by decide) (set_off (by decide) (set_off (by decide) t3))))
  generalize ((((w1.setCell ⟨w.heap.size + 3, 0, none⟩ (.slice q.sa q.sn q.sc)).setCell ⟨w.heap.size + 3, 1, none⟩ (.slice q.ra q.rn q.rc)).setCell ⟨w.heap.size + 3, 2, none⟩ (.slice q.wa q.wn q.tc)).setCell ⟨w.heap.size + 3, 3, none⟩ (.slice q.va q.vn q.vc)) = WF at *
  refine bodyPost_ret (v := .tuple #[.agg #[.slice q.sa q.sn q.sc, .slice q.ra q.rn q.rc, .slice q.wa q.wn q.tc, .slice q.va q.vn q.vc], .int .i64 (doE m l S kd n k)]) (by simp [results, Tryz.results26, go_sem, x0, x1, x2, x3]) rfl ⟨q, rfl, FS.out, FB.out⟩
end
section
variable (la : Option Addr) (lc : Nat) (l : List TxA) (sa : Option Addr) (sc : Nat) (s : List Int)
set_option maxRecDepth 100000 in
set_option maxHeartbeats 2000000 in
theorem stepsBegin_own (m : Int) (w : World) (hl : IsTxs w la l) (hs : IsInts w sa s) :
    Calls Tryz.prog 14 #[.agg #[.int .i64 m, .slice la l.length lc], .slice sa s.length sc] w fun e w' => ∃ q : Q4, e = .returned (.tuple #[.agg #[.slice q.sa q.sn q.sc, .slice q.ra q.rn q.rc, .slice q.wa q.wn q.tc, .slice q.va q.vn q.vc], .int .i64 (begE m l s)]) ∧ OwnP w.heap.size (begS m l s) q w' ∧ Below w.heap.size w w' := by
  have hg : Below w.heap.size w (((((w.alloc (.cells #[.int .i64 m, .slice la l.length lc] 24)).alloc (.cells #[.slice sa s.length sc] 25)).alloc (.cells #[.slice none 0 0, .slice none 0 0, .slice none 0 0, .slice none 0 0] 29)).alloc (.cells #[.slice none 0 0, .slice none 0 0, .slice none 0 0, .slice none 0 0] 29)).alloc (.cells #[.int .i64 0] 30)) := (grow_alloc (grow_alloc (grow_alloc (grow_alloc (grow_alloc (Below.refl _ _) _) _) _) _) _)
  have hU : Hid (Below w.heap.size w (((w.alloc (.cells #[.int .i64 m, .slice la l.length lc] 24)).alloc (.cells #[.slice sa s.length sc] 25)).alloc (.cells #[.slice none 0 0, .slice none 0 0, .slice none 0 0, .slice none 0 0] 29))) := (grow_alloc (grow_alloc (grow_alloc (Below.refl _ _) _) _) _)
  have hmf : ∀ (fn : Fn) (first cap : Array Value) (w : World), (Instr.makeFunc fn first cap).run Tryz.prog w = .ok (.func fn first cap) w := fun _ _ _ _ => rfl
  have p0 : (((((w.alloc (.cells #[.int .i64 m, .slice la l.length lc] 24)).alloc (.cells #[.slice sa s.length sc] 25)).alloc (.cells #[.slice none 0 0, .slice none 0 0, .slice none 0 0, .slice none 0 0] 29)).alloc (.cells #[.slice none 0 0, .slice none 0 0, .slice none 0 0, .slice none 0 0] 29)).alloc (.cells #[.int .i64 0] 30)).cell? ⟨w.heap.size, 0, none⟩ = some (.int .i64 m) := ext_cell (grow_alloc (grow_alloc (grow_alloc (grow_alloc (Below.refl _ _) _) _) _) _) (at_new _ _ 24 _ 0 _ (by first | rfl | simp) rfl)
  have p1 : (((((w.alloc (.cells #[.int .i64 m, .slice la l.length lc] 24)).alloc (.cells #[.slice sa s.length sc] 25)).alloc (.cells #[.slice none 0 0, .slice none 0 0, .slice none 0 0, .slice none 0 0] 29)).alloc (.cells #[.slice none 0 0, .slice none 0 0, .slice none 0 0, .slice none 0 0] 29)).alloc (.cells #[.int .i64 0] 30)).cell? ⟨w.heap.size, 1, none⟩ = some (.slice la l.length lc) := ext_cell (grow_alloc (grow_alloc (grow_alloc (grow_alloc (Below.refl _ _) _) _) _) _) (at_new _ _ 24 _ 1 _ (by first | rfl | simp) rfl)
  have q0 : (((((w.alloc (.cells #[.int .i64 m, .slice la l.length lc] 24)).alloc (.cells #[.slice sa s.length sc] 25)).alloc (.cells #[.slice none 0 0, .slice none 0 0, .slice none 0 0, .slice none 0 0] 29)).alloc (.cells #[.slice none 0 0, .slice none 0 0, .slice none 0 0, .slice none 0 0] 29)).alloc (.cells #[.int .i64 0] 30)).cell? ⟨w.heap.size + 1, 0, none⟩ = some (.slice sa s.length sc) := ext_cell (grow_alloc (grow_alloc (grow_alloc (Below.refl _ _) _) _) _) (at_new _ _ 25 _ 0 _ (by first | rfl | simp) rfl)
  have T0 : Hid (∀ j, j < 4 → (((w.alloc (.cells #[.int .i64 m, .slice la l.length lc] 24)).alloc (.cells #[.slice sa s.length sc] 25)).alloc (.cells #[.slice none 0 0, .slice none 0 0, .slice none 0 0, .slice none 0 0] 29)).cell? ⟨w.heap.size + 2, j, none⟩ = some (.slice none 0 0)) := fun j hj => by
    match j, hj with
    | 0, _ => exact at_new _ _ 29 _ 0 _ (by simp) rfl
    | 1, _ => exact at_new _ _ 29 _ 1 _ (by simp) rfl
    | 2, _ => exact at_new _ _ 29 _ 2 _ (by simp) rfl
    | 3, _ => exact at_new _ _ 29 _ 3 _ (by simp) rfl
  have TF : Hid (∀ j, (((w.alloc (.cells #[.int .i64 m, .slice la l.length lc] 24)).alloc (.cells #[.slice sa s.length sc] 25)).alloc (.cells #[.slice none 0 0, .slice none 0 0, .slice none 0 0, .slice none 0 0] 29)).frozen? ⟨w.heap.size + 2, j, none⟩ = false) := fun j => frozen_new _ _ 29 _ j (by simp)
  have sz : Hid ((((w.alloc (.cells #[.int .i64 m, .slice la l.length lc] 24)).alloc (.cells #[.slice sa s.length sc] 25)).alloc (.cells #[.slice none 0 0, .slice none 0 0, .slice none 0 0, .slice none 0 0] 29)).heap.size = w.heap.size + 3) := by show _ = _; simp
  have CC : Hid (Calls Tryz.prog 41 #[.func (.func 42) #[] #[.pointer (some ⟨w.heap.size, 0, none⟩), .pointer (some ⟨w.heap.size + 1, 0, none⟩)]] (((w.alloc (.cells #[.int .i64 m, .slice la l.length lc] 24)).alloc (.cells #[.slice sa s.length sc] 25)).alloc (.cells #[.slice none 0 0, .slice none 0 0, .slice none 0 0, .slice none 0 0] 29)) fun e w' => ∃ q : Q4, e = .returned (.tuple #[.agg #[.slice q.sa q.sn q.sc, .slice q.ra q.rn q.rc, .slice q.wa q.wn q.tc, .slice q.va q.vn q.vc], .int .i64 (begE m l s)]) ∧ OwnP (w.heap.size + 3) (begS m l s) q w' ∧ Below (((w.alloc (.cells #[.int .i64 m, .slice la l.length lc] 24)).alloc (.cells #[.slice sa s.length sc] 25)).alloc (.cells #[.slice none 0 0, .slice none 0 0, .slice none 0 0, .slice none 0 0] 29)).heap.size (((w.alloc (.cells #[.int .i64 m, .slice la l.length lc] 24)).alloc (.cells #[.slice sa s.length sc] 25)).alloc (.cells #[.slice none 0 0, .slice none 0 0, .slice none 0 0, .slice none 0 0] 29)) w') := by
    by_cases hE : begE m l s = 0
    · have e2 : begS m l s = begX m.toNat l s := if_pos hE
      obtain ⟨sh, rfl, h0, _, _, _⟩ := begE_zero hE
      rw [e2, hE]
      refine (caughtSa_ret 42 _ (fun _ => rfl) (fun q w' => BegQ (w.heap.size + 5) l sh (begX sh l s) q w') _ (fun q w' i u j hj h => h.set j i u (by have := sz.out; omega)) ((beg1_ok la lc l sa sc s sh _ _ _ p0 p1 q0 (hl.below hg) (hs.below hg) hE).mono ?_)).mono ?_
      · rintro e w' ⟨q, rfl, ho, hb⟩
        exact ⟨q, rfl, ho.low (by simp), hb⟩
      · rintro e w' ⟨q, rfl, ho, hb⟩
        exact ⟨q, rfl, (OwnP.beg ho h0).low (by omega), hb⟩
    · have e2 : begS m l s = SNil := if_neg hE
      rw [e2]
      refine (caughtSa_pan 42 _ (fun _ => rfl) _ _ (beg1_pan la lc l sa sc s m _ _ _ p0 p1 q0 (hl.below hg) hE)).mono ?_
      rintro e w' ⟨rfl, hb⟩
      exact ⟨qNil, rfl, OwnP.nil _ _, hb⟩
  clear hg p0 p1 q0 hl hs
  go_enter Tryz.func14, Tryz.ntmps14
  go_upto_region 1 with fail
  generalize (((w.alloc (.cells #[.int .i64 m, .slice la l.length lc] 24)).alloc (.cells #[.slice sa s.length sc] 25)).alloc (.cells #[.slice none 0 0, .slice none 0 0, .slice none 0 0, .slice none 0 0] 29)) = W at *
  go_wp2_with fail
  refine CC.out.mono ?_
  clear CC
  rintro e w1 ⟨q, rfl, hq, hb⟩
  have t0 := ext_cell hb (T0.out 0 (by decide))
  have t1 := ext_cell hb (T0.out 1 (by decide))
  have t2 := ext_cell hb (T0.out 2 (by decide))
  have t3 := ext_cell hb (T0.out 3 (by decide))
  have tf : ∀ j, w1.frozen? ⟨w.heap.size + 2, j, none⟩ = false := fun j => (hb.frozen (p := ⟨w.heap.size + 2, j, none⟩) (by have := sz.out; show w.heap.size + 2 < _; omega)).trans (TF.out j)
  have FB : Hid (Below w.heap.size w ((((w1.setCell ⟨w.heap.size + 2, 0, none⟩ (.slice q.sa q.sn q.sc)).setCell ⟨w.heap.size + 2, 1, none⟩ (.slice q.ra q.rn q.rc)).setCell ⟨w.heap.size + 2, 2, none⟩ (.slice q.wa q.wn q.tc)).setCell ⟨w.heap.size + 2, 3, none⟩ (.slice q.va q.vn q.vc))) := grow_set (grow_set (grow_set (grow_set (grow_trans hU.out hb) (by simp) _) (by simp) _) (by simp) _) (by simp) _
  have FS : Hid (OwnP w.heap.size (begS m l s) q ((((w1.setCell ⟨w.heap.size + 2, 0, none⟩ (.slice q.sa q.sn q.sc)).setCell ⟨w.heap.size + 2, 1, none⟩ (.slice q.ra q.rn q.rc)).setCell ⟨w.heap.size + 2, 2, none⟩ (.slice q.wa q.wn q.tc)).setCell ⟨w.heap.size + 2, 3, none⟩ (.slice q.va q.vn q.vc))) := ((((hq.set _ 0 _ (by omega)).set _ 1 _ (by omega)).set _ 2 _ (by omega)).set _ 3 _ (by omega)).low (by omega)
  clear hq hb T0 TF
  go_wp2_with fail
  have x0 : ((((w1.setCell ⟨w.heap.size + 2, 0, none⟩ (.slice q.sa q.sn q.sc)).setCell ⟨w.heap.size + 2, 1, none⟩ (.slice q.ra q.rn q.rc)).setCell ⟨w.heap.size + 2, 2, none⟩ (.slice q.wa q.wn q.tc)).setCell ⟨w.heap.size + 2, 3, none⟩ (.slice q.va q.vn q.vc)).cell? ⟨w.heap.size + 2, 0, none⟩ = some (.slice q.sa q.sn q.sc) := (set_off (by decide) (set_off (by decide) (set_off (by decide) (set_here t0))))
  have x1 : ((((w1.setCell ⟨w.heap.size + 2, 0, none⟩ (.slice q.sa q.sn q.sc)).setCell ⟨w.heap.size + 2, 1, none⟩ (.slice q.ra q.rn q.rc)).setCell ⟨w.heap.size + 2, 2, none⟩ (.slice q.wa q.wn q.tc)).setCell ⟨w.heap.size + 2, 3, none⟩ (.slice q.va q.vn q.vc)).cell? ⟨w.heap.size + 2, 1, none⟩ = some (.slice q.ra q.rn q.rc) := (set_off (by decide) (set_off (by decide) (set_here (set_off (by decide) t1))))
  have x2 : ((((w1.setCell ⟨w.heap.size + 2, 0, none⟩ (.slice q.sa q.sn q.sc)).setCell ⟨w.heap.size + 2, 1, none⟩ (.slice q.ra q.rn q.rc)).setCell ⟨w.heap.size + 2, 2, none⟩ (.slice q.wa q.wn q.tc)).setCell ⟨w.heap.size + 2, 3, none⟩ (.slice q.va q.vn q.vc)).cell? ⟨w.heap.size + 2, 2, none⟩ = some (.slice q.wa q.wn q.tc) := (set_off (by decide) (set_here (set_off (by decide) (set_off (by decide) t2))))
  have x3 : ((((w1.setCell ⟨w.heap.size + 2, 0, none⟩ (.slice q.sa q.sn q.sc)).setCell ⟨w.heap.size + 2, 1, none⟩ (.slice q.ra q.rn q.rc)).setCell ⟨w.heap.size + 2, 2, none⟩ (.slice q.wa q.wn q.tc)).setCell ⟨w.heap.size + 2, 3, none⟩ (.slice q.va q.vn q.vc)).cell? ⟨w.heap.size + 2, 3, none⟩ = some (.slice q.va q.vn q.vc) := (set_here (set_off (by decide) (set_off (by decide) (set_off (by decide) t3))))
  generalize ((((w1.setCell ⟨w.heap.size + 2, 0, none⟩ (.slice q.sa q.sn q.sc)).setCell ⟨w.heap.size + 2, 1, none⟩ (.slice q.ra q.rn q.rc)).setCell ⟨w.heap.size + 2, 2, none⟩ (.slice q.wa q.wn q.tc)).setCell ⟨w.heap.size + 2, 3, none⟩ (.slice q.va q.vn q.vc)) = WF at *
  refine bodyPost_ret (v := .tuple #[.agg #[.slice q.sa q.sn q.sc, .slice q.ra q.rn q.rc, .slice q.wa q.wn q.tc, .slice q.va q.vn q.vc], .int .i64 (begE m l s)]) (by simp [results, Tryz.results14, go_sem, x0, x1, x2, x3]) rfl ⟨q, rfl, FS.out, FB.out⟩
end
end Go.Proofs.YtebjkmknhpgemaaGreat
namespace Go.Proofs.YtebjkmknhpgemaaGreat
open Go.RowKit
def five5 : List Int := [5, 1, 0, 0, 0, 0, 0, 0]
def th3 (ra ga sa ra2 sa2 sa3 : Option Addr) (rc gc sc rc2 sc2 sc3 : Nat) : List TxA := [xPay ra ga sa rc gc sc, xNote ra2 sa2 rc2 sc2, xMark 9 sa3 sc3]
variable (ra ga sa ra2 sa2 sa3 : Option Addr) (rc gc sc rc2 sc2 sc3 : Nat)
/-- Begun, and one step further. -/
def STC : SA := begS 2 (th3 none none none none none none 0 0 0 0 0 0) five5
def MVC : SA := doS 2 (th3 none none none none none none 0 0 0 0 0 0) STC 1 0 1
set_option maxRecDepth 100000
theorem th_beg : begE 2 (th3 ra ga sa ra2 sa2 sa3 rc gc sc rc2 sc2 sc3) five5 = 0 := by kernel_rfl
theorem th_stc : begS 2 (th3 ra ga sa ra2 sa2 sa3 rc gc sc rc2 sc2 sc3) five5 = STC := by kernel_rfl
theorem th_mvc : doS 2 (th3 ra ga sa ra2 sa2 sa3 rc gc sc rc2 sc2 sc3) STC 1 0 1 = MVC := by kernel_rfl
theorem th_can : canE 2 (th3 ra ga sa ra2 sa2 sa3 rc gc sc rc2 sc2 sc3) STC = [(1, 0, 0), (1, 0, 1), (1, 2, 1)] := by kernel_rfl
theorem th_st : stE 2 (th3 ra ga sa ra2 sa2 sa3 rc gc sc rc2 sc2 sc3) STC = 0 := by kernel_rfl
theorem th_s0 : stE 2 (th3 ra ga sa ra2 sa2 sa3 rc gc sc rc2 sc2 sc3) SNil = 1 := by kernel_rfl
theorem th_do : doE 2 (th3 ra ga sa ra2 sa2 sa3 rc gc sc rc2 sc2 sc3) STC 1 0 1 = 0 := by kernel_rfl
theorem th_do2 : doE 2 (th3 ra ga sa ra2 sa2 sa3 rc gc sc rc2 sc2 sc3) STC 1 1 1 = 6 := by kernel_rfl
theorem th_do3 : doE 2 (th3 ra ga sa ra2 sa2 sa3 rc gc sc rc2 sc2 sc3) MVC 1 0 1 = 7 := by kernel_rfl
theorem th_do4 : doE 2 (th3 ra ga sa ra2 sa2 sa3 rc gc sc rc2 sc2 sc3) MVC 2 2 0 = 5 := by kernel_rfl
theorem th_ov : ovE 2 (th3 ra ga sa ra2 sa2 sa3 rc gc sc rc2 sc2 sc3) STC = false := by kernel_rfl
theorem th_vs : MVC.vs = [[0, 1], [0], []] := by kernel_rfl
end Go.Proofs.YtebjkmknhpgemaaGreat
namespace Go.Proofs.YtebjkmknhpgemaaGreat
open Go.RowKit
/-- What is known of three()'s transactions. -/
structure Th (l : List TxA) : Prop where
  beg : begE 2 l five5 = 0
  stc : begS 2 l five5 = STC
  mvc : doS 2 l STC 1 0 1 = MVC
  can : canE 2 l STC = [(1, 0, 0), (1, 0, 1), (1, 2, 1)]
  st : stE 2 l STC = 0
  s0 : stE 2 l SNil = 1
  do1 : doE 2 l STC 1 0 1 = 0
  do2 : doE 2 l STC 1 1 1 = 6
  do3 : doE 2 l MVC 1 0 1 = 7
  do4 : doE 2 l MVC 2 2 0 = 5
  ov : ovE 2 l STC = false
theorem three_th (w : World) : Calls Tryz.prog 56 #[] w fun e w' => ∃ l a, e = .returned (.agg #[.int .i64 2, .slice a l.length 3]) ∧ Hid (IsTxs w' a l) ∧ Hid (Th l) ∧ Below w.heap.size w w' := by
  refine (three_any w).mono ?_
  rintro e w' ⟨a, ra, ga, sa, rc, gc, sc, ra2, sa2, rc2, sc2, sa3, sc3, rfl, hl, hb⟩
  exact ⟨th3 ra ga sa ra2 sa2 sa3 rc gc sc rc2 sc2 sc3, a, rfl, hl, ⟨th_beg _ _ _ _ _ _ _ _ _ _ _ _, th_stc _ _ _ _ _ _ _ _ _ _ _ _, th_mvc _ _ _ _ _ _ _ _ _ _ _ _, th_can _ _ _ _ _ _ _ _ _ _ _ _, th_st _ _ _ _ _ _ _ _ _ _ _ _, th_s0 _ _ _ _ _ _ _ _ _ _ _ _, th_do _ _ _ _ _ _ _ _ _ _ _ _, th_do2 _ _ _ _ _ _ _ _ _ _ _ _, th_do3 _ _ _ _ _ _ _ _ _ _ _ _, th_do4 _ _ _ _ _ _ _ _ _ _ _ _, th_ov _ _ _ _ _ _ _ _ _ _ _ _⟩, hb⟩
set_option maxRecDepth 100000 in
theorem five_any (w : World) : Calls Tryz.prog 57 #[] w fun e w' => ∃ a, e = .returned (.slice a 8 8) ∧ Hid (IsInts w' a five5) ∧ Below w.heap.size w w' := by
  go_enter Tryz.func57, Tryz.ntmps57
  go_wp2
  go_ret
  refine ⟨_, rfl, fun i hi => ⟨w.heap.size, 0, rfl, by simp, ?_⟩, grow_alloc (Below.refl _ _) _⟩
  rw [Nat.zero_add]
  match i, hi with
  | 0, _ => exact at_new _ _ 3 _ 0 _ rfl rfl
  | 1, _ => exact at_new _ _ 3 _ 1 _ rfl rfl
  | 2, _ => exact at_new _ _ 3 _ 2 _ rfl rfl
  | 3, _ => exact at_new _ _ 3 _ 3 _ rfl rfl
  | 4, _ => exact at_new _ _ 3 _ 4 _ rfl rfl
  | 5, _ => exact at_new _ _ 3 _ 5 _ rfl rfl
  | 6, _ => exact at_new _ _ 3 _ 6 _ rfl rfl
  | 7, _ => exact at_new _ _ 3 _ 7 _ rfl rfl
section
variable {l : List TxA} {a : Option Addr} {c : Nat} {m : Int} {S : SA} {q : Q4} {w : World}
theorem do_q (kd n k : Int) (hl : IsTxs w a l) (hq : StaQ S q w) : Calls Tryz.prog 26 #[.agg #[.int .i64 m, .slice a l.length c], .agg #[.slice q.sa q.sn q.sc, .slice q.ra q.rn q.rc, .slice q.wa q.wn q.tc, .slice q.va q.vn q.vc], .agg #[.int .i64 kd, .int .i64 n, .int .i64 k]] w fun e w' => ∃ q' : Q4, e = .returned (.tuple #[.agg #[.slice q'.sa q'.sn q'.sc, .slice q'.ra q'.rn q'.rc, .slice q'.wa q'.wn q'.tc, .slice q'.va q'.vn q'.vc], .int .i64 (doE m l S kd n k)]) ∧ StaF w.heap.size (doS m l S kd n k) q' w' ∧ Below w.heap.size w w' := by
  obtain ⟨e1, e2, e3, e4, hs⟩ := hq
  rw [e1, e2, e3, e4]
  exact stepsDo_any a c l q.sa q.ra q.wa q.va q.sc q.rc q.tc q.vc S m kd n k w hl hs
theorem can_q (hl : IsTxs w a l) (hq : StaQ S q w) : Calls Tryz.prog 24 #[.agg #[.int .i64 m, .slice a l.length c], .agg #[.slice q.sa q.sn q.sc, .slice q.ra q.rn q.rc, .slice q.wa q.wn q.tc, .slice q.va q.vn q.vc]] w fun e w' => ∃ a c, e = .returned (.tuple #[.slice a (canE m l S).length c, .int .i64 (stE m l S)]) ∧ IsSteps w' a (canE m l S) ∧ Below w.heap.size w w' := by
  obtain ⟨e1, e2, e3, e4, hs⟩ := hq
  rw [e1, e2, e3, e4]
  exact stepsCan_any a c l q.sa q.ra q.wa q.va q.sc q.rc q.tc q.vc S m w hl hs
theorem over_q (hl : IsTxs w a l) (hq : StaQ S q w) : Calls Tryz.prog 15 #[.agg #[.int .i64 m, .slice a l.length c], .agg #[.slice q.sa q.sn q.sc, .slice q.ra q.rn q.rc, .slice q.wa q.wn q.tc, .slice q.va q.vn q.vc]] w fun e w' => e = .returned (.tuple #[.bool (ovE m l S), .int .i64 (stE m l S)]) ∧ Below w.heap.size w w' := by
  obtain ⟨e1, e2, e3, e4, hs⟩ := hq
  rw [e1, e2, e3, e4]
  exact stepsOver_any a c l q.sa q.ra q.wa q.va q.sc q.rc q.tc q.vc S m w hl hs
theorem check_q (hl : IsTxs w a l) (hq : StaQ S q w) : Calls Tryz.prog 22 #[.agg #[.int .i64 m, .slice a l.length c], .agg #[.slice q.sa q.sn q.sc, .slice q.ra q.rn q.rc, .slice q.wa q.wn q.tc, .slice q.va q.vn q.vc]] w fun e w' => e = .returned (.int .i64 (stE m l S)) ∧ Below w.heap.size w w' := by
  obtain ⟨e1, e2, e3, e4, hs⟩ := hq
  rw [e1, e2, e3, e4]
  exact stepsCheck_any a c l q.sa q.ra q.wa q.va q.sc q.rc q.tc q.vc S m w hl hs
end
theorem fresh4 {V X wa : World} (h : Below X.heap.size X wa) (hX : X.heap = (V.alloc (.cells #[.slice none 0 0, .slice none 0 0, .slice none 0 0, .slice none 0 0] 29)).heap) : wa.cell? ⟨V.heap.size, 0, none⟩ = some (.slice none 0 0) ∧ wa.cell? ⟨V.heap.size, 1, none⟩ = some (.slice none 0 0) ∧ wa.cell? ⟨V.heap.size, 2, none⟩ = some (.slice none 0 0) ∧ wa.cell? ⟨V.heap.size, 3, none⟩ = some (.slice none 0 0) ∧ (∀ j, wa.frozen? ⟨V.heap.size, j, none⟩ = false) ∧ V.heap.size < X.heap.size := by
  have hb : V.heap.size < X.heap.size := by rw [hX]; simp
  have hc : ∀ p, X.cell? p = (V.alloc (.cells #[.slice none 0 0, .slice none 0 0, .slice none 0 0, .slice none 0 0] 29)).cell? p := fun p => World.cell?_of_block (by rw [hX])
  have hf : ∀ p, X.frozen? p = (V.alloc (.cells #[.slice none 0 0, .slice none 0 0, .slice none 0 0, .slice none 0 0] 29)).frozen? p := fun p => World.frozen?_of_block (by rw [hX])
  have g : ∀ j, (V.alloc (.cells #[.slice none 0 0, .slice none 0 0, .slice none 0 0, .slice none 0 0] 29)).cell? ⟨V.heap.size, j, none⟩ = some (.slice none 0 0) → wa.cell? ⟨V.heap.size, j, none⟩ = some (.slice none 0 0) := fun j e => (h.cell (p := ⟨V.heap.size, j, none⟩) hb).trans ((hc _).trans e)
  exact ⟨g 0 (at_new _ _ 29 _ 0 _ rfl rfl), g 1 (at_new _ _ 29 _ 1 _ rfl rfl), g 2 (at_new _ _ 29 _ 2 _ rfl rfl), g 3 (at_new _ _ 29 _ 3 _ rfl rfl), fun j => (h.frozen (p := ⟨V.heap.size, j, none⟩) hb).trans ((hf _).trans (frozen_new _ _ 29 _ j rfl)), hb⟩
theorem fresh4_on {X wa wb : World} {R : Nat} {u0 u1 u2 u3 : Value} (h : Below X.heap.size X wb) (r0 : wa.cell? ⟨R, 0, none⟩ = some u0) (r1 : wa.cell? ⟨R, 1, none⟩ = some u1) (r2 : wa.cell? ⟨R, 2, none⟩ = some u2) (r3 : wa.cell? ⟨R, 3, none⟩ = some u3) (rf : ∀ j, wa.frozen? ⟨R, j, none⟩ = false) (hX : X.heap = wa.heap) : wb.cell? ⟨R, 0, none⟩ = some u0 ∧ wb.cell? ⟨R, 1, none⟩ = some u1 ∧ wb.cell? ⟨R, 2, none⟩ = some u2 ∧ wb.cell? ⟨R, 3, none⟩ = some u3 ∧ (∀ j, wb.frozen? ⟨R, j, none⟩ = false) ∧ R < X.heap.size := by
  have hb : R < X.heap.size := by rw [hX]; exact World.block_lt_of_cell? wa ⟨R, 0, none⟩ r0
  have hc : ∀ p, X.cell? p = wa.cell? p := fun p => World.cell?_of_block (by rw [hX])
  have hf : ∀ p, X.frozen? p = wa.frozen? p := fun p => World.frozen?_of_block (by rw [hX])
  exact ⟨(h.cell (p := ⟨R, 0, none⟩) hb).trans ((hc _).trans r0), (h.cell (p := ⟨R, 1, none⟩) hb).trans ((hc _).trans r1), (h.cell (p := ⟨R, 2, none⟩) hb).trans ((hc _).trans r2), (h.cell (p := ⟨R, 3, none⟩) hb).trans ((hc _).trans r3), fun j => (h.frozen (p := ⟨R, j, none⟩) hb).trans ((hf _).trans (rf j)), hb⟩
end Go.Proofs.YtebjkmknhpgemaaGreat
namespace Go.Proofs.YtebjkmknhpgemaaGreat
open Go.RowKit
theorem do_st {m : Int} {l : List TxA} {S : SA} {kd n k : Int} (h : stE m l S = 0) (hd : doE m l S kd n k = 0) : stE m l (doS m l S kd n k) = 0 := by
  have e2 : doS m l S kd n k = doX m.toNat l S kd.toNat n.toNat k.toNat := if_pos hd
  have e1 : doE m l S kd n k = stepE m.toNat l S kd n k := if_pos h
  rw [e1] at hd
  rw [e2]
  obtain ⟨sh, rfl, _, _, _, hp, hf, ht⟩ := stE_zero h
  simp only [Int.toNat_natCast] at hd ⊢
  obtain ⟨K, N, k', rfl, rfl, rfl, hK, hN, hk, a1, a2, a3⟩ := stepE_zero hd
  simp only [Int.toNat_natCast]
  have hm : mayB sh l S K N k' = true := by unfold mayB; rw [a1, a2, a3]; rfl
  have f' := do_form (kind := K) (k := k') (formB_iff.1 hf) hN
  have t' := do_truth hK (formB_iff.1 hf) (truthB_iff.1 ht) hN hk hm
  unfold stE
  rw [if_pos hp]
  show (if formB sh l (doX sh l S K N k') && truthB sh l (doX sh l S K N k') then (0 : Int) else 1) = 0
  rw [formB_iff.2 f', truthB_iff.2 t']; rfl
variable (la : Option Addr) (lc : Nat) (l : List TxA) (sa ra wa va : Option Addr) (sc rc tc vc : Nat) (S : SA)
end Go.Proofs.YtebjkmknhpgemaaGreat
namespace Go.Proofs.YtebjkmknhpgemaaGreat
theorem inv_st {m : Int} {l : List TxA} {S : SA} {s : List Int} (hp : planE m l = 0) (I : Inv m.toNat l s S) : stE m l S = 0 := by
  unfold stE
  rw [if_pos hp, formB_iff.2 I.f, truthB_iff.2 I.t]
  rfl
theorem beg_zero {m : Int} {l : List TxA} {s : List Int} (h : begE m l s = 0) : planE m l = 0 ∧ s.length = 8 := by
  unfold begE lenE at h
  by_cases h1 : planE m l = 0
  · rw [h1] at h
    refine ⟨h1, ?_⟩
    apply Classical.byContradiction
    intro h8
    simp [firstNZ, h8] at h
  · simp [firstNZ, h1] at h
theorem beg_inv {m : Int} {l : List TxA} {s : List Int} (h : begE m l s = 0) : Inv m.toNat l s (begS m l s) := by
  obtain ⟨hp, h8⟩ := beg_zero h
  have e : begS m l s = begX m.toNat l s := if_pos h
  rw [e]
  exact inv_beg _ _ _ h8 (fun n hn => good_of (chkL_in (planE_zero hp).2.2 n hn))
end Go.Proofs.YtebjkmknhpgemaaGreat
