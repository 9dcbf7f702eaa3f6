/-
  The error of a step, as a hall tells it.
  Conditions: those that each theorem states.
-/
import Derived.Test.YtebjkmknhpgemaaGreatHallE
import Derived.WalkKit
import Derived.WalkSpells
import Derived.WalkLawsBesides
import Derived.Defers
import Derived.Recover
import Derived.ProofKit
import Derived.Deep.RegionHeld
import Derived.Deep.RegionHeld3
import Derived.Deep.RegionLaw
import Derived.Deep.DeepCutAuto
import Derived.Deep.QuietTactic
import Derived.BigQuiet
import Derived.Maps.AppendAt
import Derived.Lib.SliceRun
import Derived.Deep.AppendLies
namespace Go.Proofs.YtebjkmknhpgemaaGreat
open Go.RowKit

theorem stepE_kind {sh : Nat} {l : List TxA} {S : SA} {kd n k : Int} (h1 : ¬ kd = 1) (h2 : ¬ kd = 2) : stepE sh l S kd n k = 4 := by
  unfold stepE; rw [if_neg (by omega)]
theorem stepE_out {sh : Nat} {l : List TxA} {S : SA} {kd n k : Int} (h : kd = 1 ∨ kd = 2) (ho : n < 0 ∨ (l.length : Int) ≤ n ∨ k < 0 ∨ (sh : Int) ≤ k) : stepE sh l S kd n k = 5 := by
  unfold stepE; rw [if_pos h, if_pos ho]
theorem stepE_in {sh : Nat} {l : List TxA} {S : SA} {kd n k : Nat} (h : kd = 1 ∨ kd = 2) (hn : n < l.length) (hk : k < sh) : stepE sh l S kd n k = if hasB sh l kd n k then (if doneB S kd n k then 7 else if freeB sh l S kd n k then 0 else 6) else 5 := by
  unfold stepE
  rw [if_pos (by omega), if_neg (by omega)]
  rfl

variable {w : World} {h sh : Nat} {l : List TxA} {S : SA} {A : HA}

set_option maxRecDepth 100000 in
set_option maxHeartbeats 2000000 in
theorem stepError_kind (kd n k : Int) (h1 : ¬ kd = 1) (h2 : ¬ kd = 2) (w : World) :
    Calls Tryz.prog 67 #[.pointer (some ⟨h, 0, none⟩), .agg #[.int .i64 kd, .int .i64 n, .int .i64 k]] w fun e w' => e = .returned (.int .i64 4) ∧ Below w.heap.size w w' := by
  have e1 : Hid (Below w.heap.size w (w.alloc (.cells #[.int .i64 kd, .int .i64 n, .int .i64 k] 48))) := grow_alloc (Below.refl _ _) _
  have c0 : (w.alloc (.cells #[.int .i64 kd, .int .i64 n, .int .i64 k] 48)).cell? ⟨w.heap.size, 0, none⟩ = some (.int .i64 kd) := by simp
  have d1 : (kd != 1) = true := by simpa using h1
  have d2 : (kd != 2) = true := by simpa using h2
  go_enter Tryz.func67, Tryz.ntmps67
  go_wp2
  go_ret
  exact ⟨rfl, e1.out⟩

set_option maxRecDepth 100000 in
set_option maxHeartbeats 2000000 in
theorem stepError_out (H : Hall w h sh l S A) (kd : Nat) (hkd : kd = 1 ∨ kd = 2) (n k : Int) (ho : n < 0 ∨ (l.length : Int) ≤ n ∨ k < 0 ∨ (sh : Int) ≤ k) :
    Calls Tryz.prog 67 #[.pointer (some ⟨h, 0, none⟩), .agg #[.int .i64 kd, .int .i64 n, .int .i64 k]] w fun e w' => e = .returned (.int .i64 5) ∧ Below w.heap.size w w' := by
  have e1 : Hid (Below w.heap.size w (w.alloc (.cells #[.int .i64 kd, .int .i64 n, .int .i64 k] 48))) := grow_alloc (Below.refl _ _) _
  have c0 : (w.alloc (.cells #[.int .i64 kd, .int .i64 n, .int .i64 k] 48)).cell? ⟨w.heap.size, 0, none⟩ = some (.int .i64 kd) := by simp
  have c1 : (w.alloc (.cells #[.int .i64 kd, .int .i64 n, .int .i64 k] 48)).cell? ⟨w.heap.size, 1, none⟩ = some (.int .i64 n) := by simp
  have c2 : (w.alloc (.cells #[.int .i64 kd, .int .i64 n, .int .i64 k] 48)).cell? ⟨w.heap.size, 2, none⟩ = some (.int .i64 k) := by simp
  have CB : Hid (Calls Tryz.prog 108 #[.pointer (some ⟨h, 0, none⟩), .agg #[.int .i64 kd, .int .i64 n, .int .i64 k]] (w.alloc (.cells #[.int .i64 kd, .int .i64 n, .int .i64 k] 48)) fun e w' => e = .returned (.bool false) ∧ Below (w.alloc (.cells #[.int .i64 kd, .int .i64 n, .int .i64 k] 48)).heap.size (w.alloc (.cells #[.int .i64 kd, .int .i64 n, .int .i64 k] 48)) w') := belongs_out (H.below e1.out) kd n k ho
  clear H ho
  rcases hkd with rfl | rfl
  · go_enter Tryz.func67, Tryz.ntmps67
    go_wp2_with fail
    refine CB.out.mono ?_
    rintro e w1 ⟨rfl, hb⟩
    have B1 : Hid (Below w.heap.size w w1) := grow_trans e1.out hb
    clear hb CB c0 c1 c2
    go_wp2
    go_ret
    exact ⟨rfl, B1.out⟩
  · go_enter Tryz.func67, Tryz.ntmps67
    go_wp2_with fail
    refine CB.out.mono ?_
    rintro e w1 ⟨rfl, hb⟩
    have B1 : Hid (Below w.heap.size w w1) := grow_trans e1.out hb
    clear hb CB c0 c1 c2
    go_wp2
    go_ret
    exact ⟨rfl, B1.out⟩

set_option maxRecDepth 100000 in
set_option maxHeartbeats 2000000 in
theorem stepError_in (H : Hall w h sh l S A) (kd : Nat) (hkd : kd = 1 ∨ kd = 2) {n k : Nat} (hn : n < l.length) (hk : k < sh) :
    Calls Tryz.prog 67 #[.pointer (some ⟨h, 0, none⟩), .agg #[.int .i64 kd, .int .i64 n, .int .i64 k]] w fun e w' => e = .returned (.int .i64 (stepE sh l S kd n k)) ∧ Below w.heap.size w w' := by
  have e1 : Hid (Below w.heap.size w (w.alloc (.cells #[.int .i64 kd, .int .i64 n, .int .i64 k] 48))) := grow_alloc (Below.refl _ _) _
  have c0 : (w.alloc (.cells #[.int .i64 kd, .int .i64 n, .int .i64 k] 48)).cell? ⟨w.heap.size, 0, none⟩ = some (.int .i64 kd) := by simp
  have c1 : (w.alloc (.cells #[.int .i64 kd, .int .i64 n, .int .i64 k] 48)).cell? ⟨w.heap.size, 1, none⟩ = some (.int .i64 n) := by simp
  have c2 : (w.alloc (.cells #[.int .i64 kd, .int .i64 n, .int .i64 k] 48)).cell? ⟨w.heap.size, 2, none⟩ = some (.int .i64 k) := by simp
  have HH : Hid (Hall (w.alloc (.cells #[.int .i64 kd, .int .i64 n, .int .i64 k] 48)) h sh l S A) := H.below e1.out
  have CB : Hid (Calls Tryz.prog 108 #[.pointer (some ⟨h, 0, none⟩), .agg #[.int .i64 kd, .int .i64 n, .int .i64 k]] (w.alloc (.cells #[.int .i64 kd, .int .i64 n, .int .i64 k] 48)) fun e w' => e = .returned (.bool (hasB sh l kd n k)) ∧ Below (w.alloc (.cells #[.int .i64 kd, .int .i64 n, .int .i64 k] 48)).heap.size (w.alloc (.cells #[.int .i64 kd, .int .i64 n, .int .i64 k] 48)) w') := belongs_in HH.out kd hkd hn hk
  have CD : Hid (∀ w1, Below (w.alloc (.cells #[.int .i64 kd, .int .i64 n, .int .i64 k] 48)).heap.size (w.alloc (.cells #[.int .i64 kd, .int .i64 n, .int .i64 k] 48)) w1 → Calls Tryz.prog 109 #[.pointer (some ⟨h, 0, none⟩), .agg #[.int .i64 kd, .int .i64 n, .int .i64 k]] w1 fun e w' => e = .returned (.bool (doneB S kd n k)) ∧ Below w1.heap.size w1 w') := fun w1 hb => done_any (HH.out.below hb) kd hkd hn hk
  have CM : Hid (∀ w1, Below (w.alloc (.cells #[.int .i64 kd, .int .i64 n, .int .i64 k] 48)).heap.size (w.alloc (.cells #[.int .i64 kd, .int .i64 n, .int .i64 k] 48)) w1 → Calls Tryz.prog 110 #[.pointer (some ⟨h, 0, none⟩), .agg #[.int .i64 kd, .int .i64 n, .int .i64 k]] w1 fun e w' => e = .returned (.bool (freeB sh l S kd n k)) ∧ Below w1.heap.size w1 w') := fun w1 hb => may_any (HH.out.below hb) kd hkd hn hk
  rw [stepE_in hkd hn hk]
  have KC : Hid (∀ w1, Below (w.alloc (.cells #[.int .i64 kd, .int .i64 n, .int .i64 k] 48)).heap.size (w.alloc (.cells #[.int .i64 kd, .int .i64 n, .int .i64 k] 48)) w1 → w1.cell? ⟨w.heap.size, 0, none⟩ = some (.int .i64 kd) ∧ w1.cell? ⟨w.heap.size, 1, none⟩ = some (.int .i64 n) ∧ w1.cell? ⟨w.heap.size, 2, none⟩ = some (.int .i64 k)) := fun w1 hb => ⟨ext_cell hb c0, ext_cell hb c1, ext_cell hb c2⟩
  have hkk : (((kd : Int) != 1) = false) ∨ (((kd : Int) != 1) = true ∧ ((kd : Int) != 2) = false) := by
    rcases hkd with rfl | rfl
    · exact .inl rfl
    · exact .inr ⟨rfl, rfl⟩
  have HK : Hid ((((kd : Int) != 1) = false) ∨ (((kd : Int) != 1) = true ∧ ((kd : Int) != 2) = false)) := hkk
  clear H HH hkk hkd
  generalize hasB sh l kd n k = P at *
  generalize doneB S kd n k = Q at *
  generalize freeB sh l S kd n k = R at *
  rcases HK.out with d1 | ⟨d1, d2⟩
  · clear HK
    go_enter Tryz.func67, Tryz.ntmps67
    go_wp2_with fail
    refine CB.out.mono ?_
    rintro e w1 ⟨rfl, hb⟩
    have B1 : Hid (Below (w.alloc (.cells #[.int .i64 kd, .int .i64 n, .int .i64 k] 48)).heap.size (w.alloc (.cells #[.int .i64 kd, .int .i64 n, .int .i64 k] 48)) w1) := hb
    clear hb CB c0 c1 c2
    cases P
    · have FIN : Hid (Below w.heap.size w w1) := grow_trans e1.out B1.out
      clear KC CD CM
      go_wp2
      go_ret
      exact ⟨rfl, FIN.out⟩
    · obtain ⟨c0, c1, c2⟩ := KC.out w1 B1.out
      go_wp2_with fail
      refine (CD.out w1 B1.out).mono ?_
      rintro e w2 ⟨rfl, hb⟩
      have B2 : Hid (Below (w.alloc (.cells #[.int .i64 kd, .int .i64 n, .int .i64 k] 48)).heap.size (w.alloc (.cells #[.int .i64 kd, .int .i64 n, .int .i64 k] 48)) w2) := grow_trans B1.out hb
      clear hb CD c0 c1 c2
      cases Q
      rotate_left
      · have FIN : Hid (Below w.heap.size w w2) := grow_trans e1.out B2.out
        clear KC CM
        go_wp2
        go_ret
        exact ⟨rfl, FIN.out⟩
      · obtain ⟨c0, c1, c2⟩ := KC.out w2 B2.out
        go_wp2_with fail
        refine (CM.out w2 B2.out).mono ?_
        rintro e w3 ⟨rfl, hb⟩
        have FIN : Hid (Below w.heap.size w w3) := grow_trans e1.out (grow_trans B2.out hb)
        clear hb CM c0 c1 c2 KC
        cases R
        · go_wp2
          go_ret
          exact ⟨rfl, FIN.out⟩
        · go_wp2
          go_ret
          exact ⟨rfl, FIN.out⟩
  · clear HK
    go_enter Tryz.func67, Tryz.ntmps67
    go_wp2_with fail
    refine CB.out.mono ?_
    rintro e w1 ⟨rfl, hb⟩
    have B1 : Hid (Below (w.alloc (.cells #[.int .i64 kd, .int .i64 n, .int .i64 k] 48)).heap.size (w.alloc (.cells #[.int .i64 kd, .int .i64 n, .int .i64 k] 48)) w1) := hb
    clear hb CB c0 c1 c2
    cases P
    · have FIN : Hid (Below w.heap.size w w1) := grow_trans e1.out B1.out
      clear KC CD CM
      go_wp2
      go_ret
      exact ⟨rfl, FIN.out⟩
    · obtain ⟨c0, c1, c2⟩ := KC.out w1 B1.out
      go_wp2_with fail
      refine (CD.out w1 B1.out).mono ?_
      rintro e w2 ⟨rfl, hb⟩
      have B2 : Hid (Below (w.alloc (.cells #[.int .i64 kd, .int .i64 n, .int .i64 k] 48)).heap.size (w.alloc (.cells #[.int .i64 kd, .int .i64 n, .int .i64 k] 48)) w2) := grow_trans B1.out hb
      clear hb CD c0 c1 c2
      cases Q
      rotate_left
      · have FIN : Hid (Below w.heap.size w w2) := grow_trans e1.out B2.out
        clear KC CM
        go_wp2
        go_ret
        exact ⟨rfl, FIN.out⟩
      · obtain ⟨c0, c1, c2⟩ := KC.out w2 B2.out
        go_wp2_with fail
        refine (CM.out w2 B2.out).mono ?_
        rintro e w3 ⟨rfl, hb⟩
        have FIN : Hid (Below w.heap.size w w3) := grow_trans e1.out (grow_trans B2.out hb)
        clear hb CM c0 c1 c2 KC
        cases R
        · go_wp2
          go_ret
          exact ⟨rfl, FIN.out⟩
        · go_wp2
          go_ret
          exact ⟨rfl, FIN.out⟩

theorem stepError_any (H : Hall w h sh l S A) (kd n k : Int) :
    Calls Tryz.prog 67 #[.pointer (some ⟨h, 0, none⟩), .agg #[.int .i64 kd, .int .i64 n, .int .i64 k]] w fun e w' => e = .returned (.int .i64 (stepE sh l S kd n k)) ∧ Below w.heap.size w w' := by
  by_cases hk : kd = 1 ∨ kd = 2
  · obtain ⟨K, hK, rfl⟩ : ∃ K : Nat, (K = 1 ∨ K = 2) ∧ kd = K := by
      rcases hk with rfl | rfl
      · exact ⟨1, .inl rfl, rfl⟩
      · exact ⟨2, .inr rfl, rfl⟩
    by_cases ho : n < 0 ∨ (l.length : Int) ≤ n ∨ k < 0 ∨ (sh : Int) ≤ k
    · rw [stepE_out hk ho]
      exact stepError_out H K hK n k ho
    · obtain ⟨N, rfl⟩ : ∃ N : Nat, n = N := ⟨n.toNat, by omega⟩
      obtain ⟨K', rfl⟩ : ∃ K' : Nat, k = K' := ⟨k.toNat, by omega⟩
      exact stepError_in H K hK (by omega) (by omega)
  · rw [stepE_kind (by omega) (by omega)]
    exact stepError_kind kd n k (by omega) (by omega) w
end Go.Proofs.YtebjkmknhpgemaaGreat
