/-
  
  Conditions: those that each theorem states.
-/
import Derived.Test.YtcgpkonfneofdaaGreatSHallD
set_option maxRecDepth 100000
namespace Go.Proofs.YtcgpkonfneofdaaGreat
open Go.RowKit
variable {w : World} {h sh : Nat} {l : List TxA} {S : SA} {A : HA}
theorem drewN_grow {a w : World} (hb : Below a.heap.size a w) (n : Nat) : Below a.heap.size a (w.drewN n) := ⟨hb.os, hb.tape, hb.output, hb.size, hb.block⟩
set_option maxHeartbeats 2000000 in
theorem belongs_out (H : Hall w h sh l S A) (kd n k : Int) (ho : n < 0 ∨ (l.length : Int) ≤ n ∨ k < 0 ∨ (sh : Int) ≤ k) :
  Calls Tryz.prog 111 #[.pointer (some ⟨h, 0, none⟩), .agg #[.int .i64 kd, .int .i64 n, .int .i64 k]] w fun e w' => e = .returned (.bool false) ∧ Below w.heap.size w w' := by
 have e1 : Hid (Below w.heap.size w (w.alloc (.cells #[.int .i64 kd, .int .i64 n, .int .i64 k] 125))) := grow_alloc (Below.refl _ _) _
 have c1 : (w.alloc (.cells #[.int .i64 kd, .int .i64 n, .int .i64 k] 125)).cell? ⟨w.heap.size, 1, none⟩ = some (.int .i64 n) := by simp
 have c2 : (w.alloc (.cells #[.int .i64 kd, .int .i64 n, .int .i64 k] 125)).cell? ⟨w.heap.size, 2, none⟩ = some (.int .i64 k) := by simp
 have x0 := ext_cell e1.out H.h0
 have p0 := ext_cell e1.out H.p0
 have p1 := ext_cell e1.out H.p1
 have HO : Hid (n < 0 ∨ (l.length : Int) ≤ n ∨ k < 0 ∨ (sh : Int) ≤ k) := ho
 clear H ho
 go_enter Tryz.func111, Tryz.ntmps111
 go_upto_region 1 with fail
 generalize (w.alloc (.cells #[.int .i64 kd, .int .i64 n, .int .i64 k] 125)) = W at *
 have FIN : ∀ q, Hid (Below w.heap.size w (W.drewN q)) := fun q => drewN_grow e1.out q
 by_cases h1 : n < 0
 ·go_quiet (fail)
  go_wp2
  go_ret
  exact ⟨rfl, (FIN _).out⟩
 ·have d1 : decide (n < 0) = false := decide_eq_false h1
  by_cases h2 : (l.length : Int) ≤ n
  ·go_quiet (fail)
   go_wp2
   go_ret
   exact ⟨rfl, (FIN _).out⟩
  ·have d2 : decide ((l.length : Int) ≤ n) = false := decide_eq_false h2
   by_cases h3 : k < 0
   ·go_quiet (fail)
    go_wp2
    go_ret
    exact ⟨rfl, (FIN _).out⟩
   ·have d3 : decide (k < 0) = false := decide_eq_false h3
    have h4 : (sh : Int) ≤ k := by have := HO.out; omega
    go_quiet (fail)
    go_wp2
    go_ret
    exact ⟨rfl, (FIN _).out⟩
set_option maxHeartbeats 2000000 in
theorem belongs_in (H : Hall w h sh l S A) (kd : Nat) (hkd : kd = 1 ∨ kd = 2) {n k : Nat} (hn : n < l.length) (hk : k < sh) :
  Calls Tryz.prog 111 #[.pointer (some ⟨h, 0, none⟩), .agg #[.int .i64 kd, .int .i64 n, .int .i64 k]] w fun e w' => e = .returned (.bool (hasB sh l kd n k)) ∧ Below w.heap.size w w' := by
 have e1 : Hid (Below w.heap.size w (w.alloc (.cells #[.int .i64 kd, .int .i64 n, .int .i64 k] 125))) := grow_alloc (Below.refl _ _) _
 have c0 : (w.alloc (.cells #[.int .i64 kd, .int .i64 n, .int .i64 k] 125)).cell? ⟨w.heap.size, 0, none⟩ = some (.int .i64 kd) := by simp
 have c1 : (w.alloc (.cells #[.int .i64 kd, .int .i64 n, .int .i64 k] 125)).cell? ⟨w.heap.size, 1, none⟩ = some (.int .i64 n) := by simp
 have c2 : (w.alloc (.cells #[.int .i64 kd, .int .i64 n, .int .i64 k] 125)).cell? ⟨w.heap.size, 2, none⟩ = some (.int .i64 k) := by simp
 have HH := H.below e1.out
 obtain ⟨b1, o1, b1', o1', k1, x1, y1, z1⟩ := br_at HH.h5 HH.pt hn hk
 obtain ⟨b2, o2, b2', o2', k2, x2, y2, z2⟩ := br_at HH.h6 HH.ac hn hk
 have x0 := HH.h0
 have p0 := HH.p0
 have p1 := HH.p1
 have HV1 : Hid (hasB sh l 1 n k = ptB sh (gX l n) k) := rfl
 have HV2 : Hid (hasB sh l 2 n k = acB sh (gX l n) k) := rfl
 have hl8 := H.l8
 have hs4 := H.s4
 clear H HH
 generalize ptB sh (gX l n) k = P at *
 generalize acB sh (gX l n) k = Q at *
 have d1 : decide ((n : Int) < 0) = false := decide_eq_false (by omega)
 have d2 : decide ((l.length : Int) ≤ (n : Int)) = false := decide_eq_false (by omega)
 have d3 : decide ((k : Int) < 0) = false := decide_eq_false (by omega)
 have d4 : decide ((sh : Int) ≤ (k : Int)) = false := decide_eq_false (by omega)
 have i1 : (0 : Int) ≤ (n : Int) := by omega
 have i2 : (n : Int) < (l.length : Int) := by omega
 have i3 : (0 : Int) ≤ (k : Int) := by omega
 have i4 : (k : Int) < (sh : Int) := by omega
 rcases hkd with rfl | rfl
 ·go_enter Tryz.func111, Tryz.ntmps111
  go_upto_region 1 with fail
  generalize (w.alloc (.cells #[.int .i64 ((1 : Nat) : Int), .int .i64 n, .int .i64 k] 125)) = W at *
  have FIN : ∀ q r, Hid (Below w.heap.size w ((W.drewN q).drewN r)) := fun q r => drewN_grow (drewN_grow e1.out q) r
  go_quiet (fail)
  go_upto_region 4 with fail
  go_quiet (fail)
  go_wp2
  go_ret
  exact ⟨by rw [HV1.out]; rfl, (FIN _ _).out⟩
 ·go_enter Tryz.func111, Tryz.ntmps111
  go_upto_region 1 with fail
  generalize (w.alloc (.cells #[.int .i64 ((2 : Nat) : Int), .int .i64 n, .int .i64 k] 125)) = W at *
  have FIN : ∀ q r, Hid (Below w.heap.size w ((W.drewN q).drewN r)) := fun q r => drewN_grow (drewN_grow e1.out q) r
  go_quiet (fail)
  go_upto_region 5 with fail
  go_quiet (fail)
  go_wp2
  go_ret
  exact ⟨by rw [HV2.out]; rfl, (FIN _ _).out⟩
set_option maxHeartbeats 2000000 in
theorem done_any (H : Hall w h sh l S A) (kd : Nat) (hkd : kd = 1 ∨ kd = 2) {n k : Nat} (hn : n < l.length) (hk : k < sh) :
  Calls Tryz.prog 112 #[.pointer (some ⟨h, 0, none⟩), .agg #[.int .i64 kd, .int .i64 n, .int .i64 k]] w fun e w' => e = .returned (.bool (doneB S kd n k)) ∧ Below w.heap.size w w' := by
 have e1 : Hid (Below w.heap.size w (w.alloc (.cells #[.int .i64 kd, .int .i64 n, .int .i64 k] 125))) := grow_alloc (Below.refl _ _) _
 have c0 : (w.alloc (.cells #[.int .i64 kd, .int .i64 n, .int .i64 k] 125)).cell? ⟨w.heap.size, 0, none⟩ = some (.int .i64 kd) := by simp
 have c1 : (w.alloc (.cells #[.int .i64 kd, .int .i64 n, .int .i64 k] 125)).cell? ⟨w.heap.size, 1, none⟩ = some (.int .i64 n) := by simp
 have c2 : (w.alloc (.cells #[.int .i64 kd, .int .i64 n, .int .i64 k] 125)).cell? ⟨w.heap.size, 2, none⟩ = some (.int .i64 k) := by simp
 have HH := H.below e1.out
 obtain ⟨b1, o1, b1', o1', k1, x1, y1, z1⟩ := br_at HH.h2 HH.rd hn hk
 obtain ⟨b2, o2, b2', o2', k2, x2, y2, z2⟩ := br_at HH.h3 HH.wr hn hk
 have HV1 : Hid (doneB S 1 n k = at2 S.rd n k) := rfl
 have HV2 : Hid (doneB S 2 n k = at2 S.wr n k) := rfl
 have hl8 := H.l8
 have hs4 := H.s4
 clear H HH
 generalize at2 S.rd n k = P at *
 generalize at2 S.wr n k = Q at *
 have i1 : (0 : Int) ≤ (n : Int) := by omega
 have i2 : (n : Int) < (l.length : Int) := by omega
 have i3 : (0 : Int) ≤ (k : Int) := by omega
 have i4 : (k : Int) < (sh : Int) := by omega
 rcases hkd with rfl | rfl
 ·go_enter Tryz.func112, Tryz.ntmps112
  go_upto_region 2 with fail
  generalize (w.alloc (.cells #[.int .i64 ((1 : Nat) : Int), .int .i64 n, .int .i64 k] 125)) = W at *
  have FIN : ∀ q, Hid (Below w.heap.size w (W.drewN q)) := fun q => drewN_grow e1.out q
  go_quiet (fail)
  go_wp2
  go_ret
  exact ⟨by rw [HV1.out]; rfl, (FIN _).out⟩
 ·go_enter Tryz.func112, Tryz.ntmps112
  go_upto_region 3 with fail
  generalize (w.alloc (.cells #[.int .i64 ((2 : Nat) : Int), .int .i64 n, .int .i64 k] 125)) = W at *
  have FIN : ∀ q, Hid (Below w.heap.size w (W.drewN q)) := fun q => drewN_grow e1.out q
  go_quiet (fail)
  go_wp2
  go_ret
  exact ⟨by rw [HV2.out]; rfl, (FIN _).out⟩
set_option maxHeartbeats 2000000 in
theorem may_any (H : Hall w h sh l S A) (kd : Nat) (hkd : kd = 1 ∨ kd = 2) {n k : Nat} (hn : n < l.length) (hk : k < sh) :
  Calls Tryz.prog 113 #[.pointer (some ⟨h, 0, none⟩), .agg #[.int .i64 kd, .int .i64 n, .int .i64 k]] w fun e w' => e = .returned (.bool (freeB sh l S kd n k)) ∧ Below w.heap.size w w' := by
 have e1 : Hid (Below w.heap.size w (w.alloc (.cells #[.int .i64 kd, .int .i64 n, .int .i64 k] 125))) := grow_alloc (Below.refl _ _) _
 have c0 : (w.alloc (.cells #[.int .i64 kd, .int .i64 n, .int .i64 k] 125)).cell? ⟨w.heap.size, 0, none⟩ = some (.int .i64 kd) := by simp
 have c1 : (w.alloc (.cells #[.int .i64 kd, .int .i64 n, .int .i64 k] 125)).cell? ⟨w.heap.size, 1, none⟩ = some (.int .i64 n) := by simp
 have c2 : (w.alloc (.cells #[.int .i64 kd, .int .i64 n, .int .i64 k] 125)).cell? ⟨w.heap.size, 2, none⟩ = some (.int .i64 k) := by simp
 have CB : Hid (Calls Tryz.prog 128 #[.pointer (some ⟨h, 0, none⟩), .int .i64 n, .int .i64 k] (w.alloc (.cells #[.int .i64 kd, .int .i64 n, .int .i64 k] 125)) fun e w' => e = .returned (.bool (blkB sh l S n k)) ∧ Below (w.alloc (.cells #[.int .i64 kd, .int .i64 n, .int .i64 k] 125)).heap.size (w.alloc (.cells #[.int .i64 kd, .int .i64 n, .int .i64 k] 125)) w') := blocked_any (H.below e1.out) hn hk
 have CR : Hid (Calls Tryz.prog 100 #[.pointer (some ⟨h, 0, none⟩), .int .i64 n] (w.alloc (.cells #[.int .i64 kd, .int .i64 n, .int .i64 k] 125)) fun e w' => e = .returned (.bool (allRd sh l S n)) ∧ w' = (w.alloc (.cells #[.int .i64 kd, .int .i64 n, .int .i64 k] 125))) := readAll_any (H.below e1.out) hn
 have HV1 : Hid (freeB sh l S 1 n k = !blkB sh l S n k) := rfl
 have HV2 : Hid (freeB sh l S 2 n k = allRd sh l S n) := rfl
 clear H
 generalize blkB sh l S n k = P at *
 generalize allRd sh l S n = Q at *
 rcases hkd with rfl | rfl
 ·go_enter Tryz.func113, Tryz.ntmps113
  go_wp2_with fail
  refine CB.out.mono ?_
  rintro e w1 ⟨rfl, hb⟩
  have B1 : Hid (Below w.heap.size w w1) := grow_trans e1.out hb
  clear hb CB CR c0 c1 c2
  go_wp2
  go_ret
  exact ⟨by rw [HV1.out]; rfl, B1.out⟩
 ·go_enter Tryz.func113, Tryz.ntmps113
  go_wp2_with fail
  refine CR.out.mono ?_
  rintro e w1 ⟨rfl, hw1⟩
  have B1 : Hid (Below w.heap.size w w1) := by rw [hw1]; exact e1.out
  clear hw1 CB CR c0 c1 c2
  go_wp2
  go_ret
  exact ⟨by rw [HV2.out]; rfl, B1.out⟩
end Go.Proofs.YtcgpkonfneofdaaGreat
