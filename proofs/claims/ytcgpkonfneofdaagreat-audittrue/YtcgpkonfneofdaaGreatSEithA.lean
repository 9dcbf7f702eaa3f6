/-
  
  Conditions: those that each theorem states.
-/
import Derived.Test.YtcgpkonfneofdaaGreatSBegB
import Derived.Test.YtcgpkonfneofdaaGreatSPlaceF
import Derived.Laws.StructEq
namespace Go.Proofs.YtcgpkonfneofdaaGreat
open Go.RowKit
def begS (m : Int) (l : List TxA) (s : List Int) : SA := if begE m l s = 0 then begX m.toNat l s else SNil
theorem begE_zero {m : Int} {l : List TxA} {s : List Int} (h : begE m l s = 0) : ∃ sh : Nat, m = sh ∧ 0 < sh ∧ sh ≤ 4 ∧ planE m l = 0 ∧ s.length = 8 := by
 have h' := firstNZ_zero _ h
 have h0 : planE m l = 0 := h' 0
 have h1 : lenE s = 0 := h' 1
 have hz := planE_zero h0
 refine ⟨m.toNat, by omega, by omega, by omega, h0, ?_⟩
 by_cases c : s.length = 8
 ·exact c
 ·have : lenE s = 1 := if_neg c
  omega
variable (la : Option Addr) (lc : Nat) (l : List TxA) (sa : Option Addr) (sc : Nat) (s : List Int)
set_option maxRecDepth 100000 in
set_option maxHeartbeats 2000000 in
theorem stepsBegin_any (m : Int) (w : World) (hl : IsTxs w la l) (hs : IsInts w sa s) :
  Calls Tryz.prog 12 #[.agg #[.int .i64 m, .slice la l.length lc], .slice sa s.length sc] w fun e w' => ∃ q : Q4, e = .returned (.tuple #[.agg #[.slice q.sa q.sn q.sc, .slice q.ra q.rn q.rc, .slice q.wa q.wn q.tc, .slice q.va q.vn q.vc], .int .i64 (begE m l s)]) ∧ StaF w.heap.size (begS m l s) q w' ∧ Below w.heap.size w w' := by
 have hg : Below w.heap.size w (((((w.alloc (.cells #[.int .i64 m, .slice la l.length lc] 24)).alloc (.cells #[.slice sa s.length sc] 25)).alloc (.cells #[.slice none 0 0, .slice none 0 0, .slice none 0 0, .slice none 0 0] 29)).alloc (.cells #[.slice none 0 0, .slice none 0 0, .slice none 0 0, .slice none 0 0] 29)).alloc (.cells #[.int .i64 0] 30)) := (grow_alloc (grow_alloc (grow_alloc (grow_alloc (grow_alloc (Below.refl _ _) _) _) _) _) _)
 have hU : Hid (Below w.heap.size w (((w.alloc (.cells #[.int .i64 m, .slice la l.length lc] 24)).alloc (.cells #[.slice sa s.length sc] 25)).alloc (.cells #[.slice none 0 0, .slice none 0 0, .slice none 0 0, .slice none 0 0] 29))) := (grow_alloc (grow_alloc (grow_alloc (Below.refl _ _) _) _) _)
 have hmf : ∀ (fn : Fn) (first cap : Array Value) (w : World), (Instr.makeFunc fn first cap).run Tryz.prog w = .ok (.func fn first cap) w := fun _ _ _ _ => rfl
 have p0 : (((((w.alloc (.cells #[.int .i64 m, .slice la l.length lc] 24)).alloc (.cells #[.slice sa s.length sc] 25)).alloc (.cells #[.slice none 0 0, .slice none 0 0, .slice none 0 0, .slice none 0 0] 29)).alloc (.cells #[.slice none 0 0, .slice none 0 0, .slice none 0 0, .slice none 0 0] 29)).alloc (.cells #[.int .i64 0] 30)).cell? ⟨w.heap.size, 0, none⟩ = some (.int .i64 m) := ext_cell (grow_alloc (grow_alloc (grow_alloc (grow_alloc (Below.refl _ _) _) _) _) _) (at_new _ _ 24 _ 0 _ (by first | rfl | simp) rfl)
 have p1 : (((((w.alloc (.cells #[.int .i64 m, .slice la l.length lc] 24)).alloc (.cells #[.slice sa s.length sc] 25)).alloc (.cells #[.slice none 0 0, .slice none 0 0, .slice none 0 0, .slice none 0 0] 29)).alloc (.cells #[.slice none 0 0, .slice none 0 0, .slice none 0 0, .slice none 0 0] 29)).alloc (.cells #[.int .i64 0] 30)).cell? ⟨w.heap.size, 1, none⟩ = some (.slice la l.length lc) := ext_cell (grow_alloc (grow_alloc (grow_alloc (grow_alloc (Below.refl _ _) _) _) _) _) (at_new _ _ 24 _ 1 _ (by first | rfl | simp) rfl)
 have q0 : (((((w.alloc (.cells #[.int .i64 m, .slice la l.length lc] 24)).alloc (.cells #[.slice sa s.length sc] 25)).alloc (.cells #[.slice none 0 0, .slice none 0 0, .slice none 0 0, .slice none 0 0] 29)).alloc (.cells #[.slice none 0 0, .slice none 0 0, .slice none 0 0, .slice none 0 0] 29)).alloc (.cells #[.int .i64 0] 30)).cell? ⟨w.heap.size + 1, 0, none⟩ = some (.slice sa s.length sc) := ext_cell (grow_alloc (grow_alloc (grow_alloc (Below.refl _ _) _) _) _) (at_new _ _ 25 _ 0 _ (by first | rfl | simp) rfl)
 have T0 : Hid (∀ j, j < 4 → (((w.alloc (.cells #[.int .i64 m, .slice la l.length lc] 24)).alloc (.cells #[.slice sa s.length sc] 25)).alloc (.cells #[.slice none 0 0, .slice none 0 0, .slice none 0 0, .slice none 0 0] 29)).cell? ⟨w.heap.size + 2, j, none⟩ = some (.slice none 0 0)) := fun j hj => by
  match j, hj with
  | 0, _ => exact at_new _ _ 29 _ 0 _ (by simp) rfl
  | 1, _ => exact at_new _ _ 29 _ 1 _ (by simp) rfl
  | 2, _ => exact at_new _ _ 29 _ 2 _ (by simp) rfl
  | 3, _ => exact at_new _ _ 29 _ 3 _ (by simp) rfl
 have TF : Hid (∀ j, (((w.alloc (.cells #[.int .i64 m, .slice la l.length lc] 24)).alloc (.cells #[.slice sa s.length sc] 25)).alloc (.cells #[.slice none 0 0, .slice none 0 0, .slice none 0 0, .slice none 0 0] 29)).frozen? ⟨w.heap.size + 2, j, none⟩ = false) := fun j => frozen_new _ _ 29 _ j (by simp)
 have sz : Hid ((((w.alloc (.cells #[.int .i64 m, .slice la l.length lc] 24)).alloc (.cells #[.slice sa s.length sc] 25)).alloc (.cells #[.slice none 0 0, .slice none 0 0, .slice none 0 0, .slice none 0 0] 29)).heap.size = w.heap.size + 3) := by show _ = _; simp
 have CC : Hid (Calls Tryz.prog 35 #[.func (.func 36) #[] #[.pointer (some ⟨w.heap.size, 0, none⟩), .pointer (some ⟨w.heap.size + 1, 0, none⟩)]] (((w.alloc (.cells #[.int .i64 m, .slice la l.length lc] 24)).alloc (.cells #[.slice sa s.length sc] 25)).alloc (.cells #[.slice none 0 0, .slice none 0 0, .slice none 0 0, .slice none 0 0] 29)) fun e w' => ∃ q : Q4, e = .returned (.tuple #[.agg #[.slice q.sa q.sn q.sc, .slice q.ra q.rn q.rc, .slice q.wa q.wn q.tc, .slice q.va q.vn q.vc], .int .i64 (begE m l s)]) ∧ StaF (w.heap.size + 3) (begS m l s) q w' ∧ Below (((w.alloc (.cells #[.int .i64 m, .slice la l.length lc] 24)).alloc (.cells #[.slice sa s.length sc] 25)).alloc (.cells #[.slice none 0 0, .slice none 0 0, .slice none 0 0, .slice none 0 0] 29)).heap.size (((w.alloc (.cells #[.int .i64 m, .slice la l.length lc] 24)).alloc (.cells #[.slice sa s.length sc] 25)).alloc (.cells #[.slice none 0 0, .slice none 0 0, .slice none 0 0, .slice none 0 0] 29)) w') := by
  by_cases hE : begE m l s = 0
  ·have e2 : begS m l s = begX m.toNat l s := if_pos hE
   obtain ⟨sh, rfl, h0, _, _, _⟩ := begE_zero hE
   rw [e2, hE]
   refine (caughtSa_ret 36 _ (fun _ => rfl) (fun q w' => BegQ (w.heap.size + 5) l sh (begX sh l s) q w') _ (fun q w' i u j hj h => h.set j i u (by have := sz.out; omega)) ((beg1_ok la lc l sa sc s sh _ _ _ p0 p1 q0 (hl.below hg) (hs.below hg) hE).mono ?_)).mono ?_
   ·rintro e w' ⟨q, rfl, ho, hb⟩
    exact ⟨q, rfl, ho.low (by simp), hb⟩
   ·rintro e w' ⟨q, rfl, ho, hb⟩
    exact ⟨q, rfl, (ho.staF h0).low (by omega), hb⟩
  ·have e2 : begS m l s = SNil := if_neg hE
   rw [e2]
   refine (caughtSa_pan 36 _ (fun _ => rfl) _ _ (beg1_pan la lc l sa sc s m _ _ _ p0 p1 q0 (hl.below hg) hE)).mono ?_
   rintro e w' ⟨rfl, hb⟩
   exact ⟨qNil, rfl, staF_nil _ _, hb⟩
 clear hg p0 p1 q0 hl hs
 go_enter Tryz.func12, Tryz.ntmps12
 go_upto_region 1 with fail
 generalize (((w.alloc (.cells #[.int .i64 m, .slice la l.length lc] 24)).alloc (.cells #[.slice sa s.length sc] 25)).alloc (.cells #[.slice none 0 0, .slice none 0 0, .slice none 0 0, .slice none 0 0] 29)) = W at *
 go_wp2_with fail
 refine CC.out.mono ?_
 clear CC
 rintro e w1 ⟨q, rfl, hq, hb⟩
 have t0 := ext_cell hb (T0.out 0 (by decide))
 have t1 := ext_cell hb (T0.out 1 (by decide))
 have t2 := ext_cell hb (T0.out 2 (by decide))
 have t3 := ext_cell hb (T0.out 3 (by decide))
 have tf : ∀ j, w1.frozen? ⟨w.heap.size + 2, j, none⟩ = false := fun j => (hb.frozen (p := ⟨w.heap.size + 2, j, none⟩) (by have := sz.out; show w.heap.size + 2 < _; omega)).trans (TF.out j)
 have FB : Hid (Below w.heap.size w ((((w1.setCell ⟨w.heap.size + 2, 0, none⟩ (.slice q.sa q.sn q.sc)).setCell ⟨w.heap.size + 2, 1, none⟩ (.slice q.ra q.rn q.rc)).setCell ⟨w.heap.size + 2, 2, none⟩ (.slice q.wa q.wn q.tc)).setCell ⟨w.heap.size + 2, 3, none⟩ (.slice q.va q.vn q.vc))) := grow_set (grow_set (grow_set (grow_set (grow_trans hU.out hb) (by simp) _) (by simp) _) (by simp) _) (by simp) _
 have FS : Hid (StaF w.heap.size (begS m l s) q ((((w1.setCell ⟨w.heap.size + 2, 0, none⟩ (.slice q.sa q.sn q.sc)).setCell ⟨w.heap.size + 2, 1, none⟩ (.slice q.ra q.rn q.rc)).setCell ⟨w.heap.size + 2, 2, none⟩ (.slice q.wa q.wn q.tc)).setCell ⟨w.heap.size + 2, 3, none⟩ (.slice q.va q.vn q.vc))) := ((((hq.set _ 0 _ (by omega)).set _ 1 _ (by omega)).set _ 2 _ (by omega)).set _ 3 _ (by omega)).low (by omega)
 clear hq hb T0 TF
 go_wp2_with fail
 have x0 : ((((w1.setCell ⟨w.heap.size + 2, 0, none⟩ (.slice q.sa q.sn q.sc)).setCell ⟨w.heap.size + 2, 1, none⟩ (.slice q.ra q.rn q.rc)).setCell ⟨w.heap.size + 2, 2, none⟩ (.slice q.wa q.wn q.tc)).setCell ⟨w.heap.size + 2, 3, none⟩ (.slice q.va q.vn q.vc)).cell? ⟨w.heap.size + 2, 0, none⟩ = some (.slice q.sa q.sn q.sc) := (set_off (by decide) (set_off (by decide) (set_off (by decide) (set_here t0))))
 have x1 : ((((w1.setCell ⟨w.heap.size + 2, 0, none⟩ (.slice q.sa q.sn q.sc)).setCell ⟨w.heap.size + 2, 1, none⟩ (.slice q.ra q.rn q.rc)).setCell ⟨w.heap.size + 2, 2, none⟩ (.slice q.wa q.wn q.tc)).setCell ⟨w.heap.size + 2, 3, none⟩ (.slice q.va q.vn q.vc)).cell? ⟨w.heap.size + 2, 1, none⟩ = some (.slice q.ra q.rn q.rc) := (set_off (by decide) (set_off (by decide) (set_here (set_off (by decide) t1))))
 have x2 : ((((w1.setCell ⟨w.heap.size + 2, 0, none⟩ (.slice q.sa q.sn q.sc)).setCell ⟨w.heap.size + 2, 1, none⟩ (.slice q.ra q.rn q.rc)).setCell ⟨w.heap.size + 2, 2, none⟩ (.slice q.wa q.wn q.tc)).setCell ⟨w.heap.size + 2, 3, none⟩ (.slice q.va q.vn q.vc)).cell? ⟨w.heap.size + 2, 2, none⟩ = some (.slice q.wa q.wn q.tc) := (set_off (by decide) (set_here (set_off (by decide) (set_off (by decide) t2))))
 have x3 : ((((w1.setCell ⟨w.heap.size + 2, 0, none⟩ (.slice q.sa q.sn q.sc)).setCell ⟨w.heap.size + 2, 1, none⟩ (.slice q.ra q.rn q.rc)).setCell ⟨w.heap.size + 2, 2, none⟩ (.slice q.wa q.wn q.tc)).setCell ⟨w.heap.size + 2, 3, none⟩ (.slice q.va q.vn q.vc)).cell? ⟨w.heap.size + 2, 3, none⟩ = some (.slice q.va q.vn q.vc) := (set_here (set_off (by decide) (set_off (by decide) (set_off (by decide) t3))))
 generalize ((((w1.setCell ⟨w.heap.size + 2, 0, none⟩ (.slice q.sa q.sn q.sc)).setCell ⟨w.heap.size + 2, 1, none⟩ (.slice q.ra q.rn q.rc)).setCell ⟨w.heap.size + 2, 2, none⟩ (.slice q.wa q.wn q.tc)).setCell ⟨w.heap.size + 2, 3, none⟩ (.slice q.va q.vn q.vc)) = WF at *
 refine bodyPost_ret (v := .tuple #[.agg #[.slice q.sa q.sn q.sc, .slice q.ra q.rn q.rc, .slice q.wa q.wn q.tc, .slice q.va q.vn q.vc], .int .i64 (begE m l s)]) (by simp [results, Tryz.results12, go_sem, x0, x1, x2, x3]) rfl ⟨q, rfl, FS.out, FB.out⟩
end Go.Proofs.YtcgpkonfneofdaaGreat
namespace Go.Proofs.YtcgpkonfneofdaaGreat
open Go.RowKit
section
variable {l : List TxA} {a : Option Addr} {c : Nat} {m : Int} {S : SA} {q : Q4} {w : World}
theorem do_q (kd n k : Int) (hl : IsTxs w a l) (hq : StaQ S q w) : Calls Tryz.prog 65 #[.agg #[.int .i64 m, .slice a l.length c], .agg #[.slice q.sa q.sn q.sc, .slice q.ra q.rn q.rc, .slice q.wa q.wn q.tc, .slice q.va q.vn q.vc], .agg #[.int .i64 kd, .int .i64 n, .int .i64 k]] w fun e w' => ∃ q' : Q4, e = .returned (.tuple #[.agg #[.slice q'.sa q'.sn q'.sc, .slice q'.ra q'.rn q'.rc, .slice q'.wa q'.wn q'.tc, .slice q'.va q'.vn q'.vc], .int .i64 (doE m l S kd n k)]) ∧ StaF w.heap.size (doS m l S kd n k) q' w' ∧ Below w.heap.size w w' := by
 obtain ⟨e1, e2, e3, e4, hs⟩ := hq
 rw [e1, e2, e3, e4]
 exact stepsDo_any a c l q.sa q.ra q.wa q.va q.sc q.rc q.tc q.vc S m kd n k w hl hs
theorem can_q (hl : IsTxs w a l) (hq : StaQ S q w) : Calls Tryz.prog 64 #[.agg #[.int .i64 m, .slice a l.length c], .agg #[.slice q.sa q.sn q.sc, .slice q.ra q.rn q.rc, .slice q.wa q.wn q.tc, .slice q.va q.vn q.vc]] w fun e w' => ∃ a c, e = .returned (.tuple #[.slice a (canE m l S).length c, .int .i64 (stE m l S)]) ∧ IsSteps w' a (canE m l S) ∧ Below w.heap.size w w' := by
 obtain ⟨e1, e2, e3, e4, hs⟩ := hq
 rw [e1, e2, e3, e4]
 exact stepsCan_any a c l q.sa q.ra q.wa q.va q.sc q.rc q.tc q.vc S m w hl hs
theorem over_q (hl : IsTxs w a l) (hq : StaQ S q w) : Calls Tryz.prog 19 #[.agg #[.int .i64 m, .slice a l.length c], .agg #[.slice q.sa q.sn q.sc, .slice q.ra q.rn q.rc, .slice q.wa q.wn q.tc, .slice q.va q.vn q.vc]] w fun e w' => e = .returned (.tuple #[.bool (ovE m l S), .int .i64 (stE m l S)]) ∧ Below w.heap.size w w' := by
 obtain ⟨e1, e2, e3, e4, hs⟩ := hq
 rw [e1, e2, e3, e4]
 exact stepsOver_any a c l q.sa q.ra q.wa q.va q.sc q.rc q.tc q.vc S m w hl hs
end
end Go.Proofs.YtcgpkonfneofdaaGreat
namespace Go.Proofs.YtcgpkonfneofdaaGreat
open Go.RowKit
theorem canL_len (sh : Nat) (l : List TxA) (S : SA) (h8 : l.length ≤ 8) (h4 : sh ≤ 4) : (canL sh l S).length ≤ 64 := by
 unfold canL canK
 rw [List.length_append]
 have a := canT_len sh l S 1 l.length
 have b := canT_len sh l S 2 l.length
 have c : l.length * sh ≤ 8 * 4 := Nat.mul_le_mul h8 h4
 omega
theorem can_any (sh : Nat) (l : List TxA) (S : SA) (kd n k : Int) : (canL sh l S).any (fun x => (x.1 : Int) == kd && (x.2.1 : Int) == n && (x.2.2 : Int) == k) = decide (stepE sh l S kd n k = 0) := by
 rw [Bool.eq_iff_iff, List.any_eq_true, decide_eq_true_eq]
 constructor
 ·rintro ⟨⟨K, N, j⟩, hx, e⟩
  obtain ⟨h1, h2, h3, h4⟩ := canL_mem.1 hx
  simp only [Bool.and_eq_true, beq_iff_eq] at e
  obtain ⟨⟨e1, e2⟩, e3⟩ := e
  subst e1 e2 e3
  have h1 : K = 1 ∨ K = 2 := h1
  have h2 : N < l.length := h2
  have h3 : j < sh := h3
  have h4 : mayB sh l S K N j = true := h4
  unfold mayB at h4
  simp only [Bool.and_eq_true, Bool.not_eq_true'] at h4
  obtain ⟨⟨a1, a2⟩, a3⟩ := h4
  unfold stepE
  rw [if_pos (by omega), if_neg (by omega)]
  simp only [Int.toNat_natCast]
  rw [if_pos a1, if_neg (by rw [a2]; simp), if_pos a3]
 ·intro h
  obtain ⟨K, N, k', rfl, rfl, rfl, hK, hN, hk, a1, a2, a3⟩ := stepE_zero h
  refine ⟨(K, N, k'), canL_mem.2 ⟨hK, hN, hk, ?_⟩, by simp⟩
  show mayB sh l S K N k' = true
  unfold mayB
  rw [a1, a2, a3]; rfl
variable (la : Option Addr) (lc : Nat) (l : List TxA) (sa ra wa va : Option Addr) (sc rc tc vc : Nat) (S : SA)
end Go.Proofs.YtcgpkonfneofdaaGreat
namespace Go.Proofs.YtcgpkonfneofdaaGreat
theorem can_do0 {m : Int} {l : List TxA} {S : SA} (h : stE m l S = 0) {x : Nat × Nat × Nat} (hx : x ∈ canE m l S) : doE m l S x.1 x.2.1 x.2.2 = 0 := by
 have e1 : doE m l S x.1 x.2.1 x.2.2 = stepE m.toNat l S x.1 x.2.1 x.2.2 := if_pos h
 have e2 : canE m l S = canL m.toNat l S := if_pos h
 rw [e2] at hx
 rw [e1]
 have := can_any m.toNat l S x.1 x.2.1 x.2.2
 have ha : (canL m.toNat l S).any (fun y => (y.1 : Int) == x.1 && (y.2.1 : Int) == x.2.1 && (y.2.2 : Int) == x.2.2) = true := List.any_eq_true.2 ⟨x, hx, by simp⟩
 rw [ha] at this
 exact of_decide_eq_true this.symm
theorem do_is {m : Int} {l : List TxA} {S : SA} {x : Nat × Nat × Nat} (h : doE m l S x.1 x.2.1 x.2.2 = 0) : doS m l S x.1 x.2.1 x.2.2 = doX m.toNat l S x.1 x.2.1 x.2.2 := by
 unfold doS
 rw [if_pos h]
 simp
theorem inv_st {m : Int} {l : List TxA} {S : SA} {s : List Int} (hp : planE m l = 0) (I : Inv m.toNat l s S) : stE m l S = 0 := by
 unfold stE
 rw [if_pos hp, formB_iff.2 I.f, truthB_iff.2 I.t]
 rfl
theorem beg_zero {m : Int} {l : List TxA} {s : List Int} (h : begE m l s = 0) : planE m l = 0 ∧ s.length = 8 := by
 unfold begE lenE at h
 by_cases h1 : planE m l = 0
 ·rw [h1] at h
  refine ⟨h1, ?_⟩
  apply Classical.byContradiction
  intro h8
  simp [firstNZ, h8] at h
 ·simp [firstNZ, h1] at h
end Go.Proofs.YtcgpkonfneofdaaGreat
