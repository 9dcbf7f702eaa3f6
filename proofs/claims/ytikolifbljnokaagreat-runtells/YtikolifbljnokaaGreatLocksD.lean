/-
  locks.grantedAll: is one granted all keys that it wants?
  Conditions: those that each theorem states.
-/
import Derived.Test.YtikolifbljnokaaGreatLocksC
import Derived.WalkKit
import Derived.WalkSpells
import Derived.WalkLawsBesides
import Derived.ProofKit
import Derived.OpenShut
import Derived.ChangeOld
import Derived.Deep.Slices
import Derived.Deep.RegionHeld
import Derived.Deep.RegionHeld3
import Derived.BigQuiet
import Derived.Deep.RegionLaw
import Derived.Deep.DeepCutAuto
import Derived.Lib.SmallJoins
namespace Go.Proofs.YtikolifbljnokaaGreat
open Go.ChangeShapes Go.WideShapes Go.ChangeAt Go.RowKit Go.Deep

set_option maxRecDepth 100000 in
set_option maxHeartbeats 1000000 in
theorem index101_in (L : List (Int × Bool)) (a : Option Addr) (c : Nat) (F : FuncId) (cap : Array Value) (P : Int × Bool → Bool) (w : World) (hL : IsLks w a L) (hl : L.length ≤ 100)
    (hF : ∀ v w, Sem.run Tryz.prog (callFunc F (#[v] ++ cap)) w = .ok (.enter F (#[v] ++ cap)) w)
    (hC : ∀ z b, (z, b) ∈ L → ∀ w', Below w.heap.size w w' → Calls Tryz.prog F (#[.agg #[.int .i64 z, .bool b]] ++ cap) w' fun e w'' => e = .returned (.bool (P (z, b))) ∧ Below w'.heap.size w' w'') :
    Calls Tryz.prog 91 #[.slice a L.length c, .func (.func F) #[] cap] w fun e w' => e = .returned (.int .i64 (idxI P L)) ∧ Below w.heap.size w w' := by
  have HL : Hid (IsLks w a L) := hL
  have HF : Hid (∀ v w, Sem.run Tryz.prog (callFunc F (#[v] ++ cap)) w = .ok (.enter F (#[v] ++ cap)) w) := hF
  have HC : Hid (∀ z b, (z, b) ∈ L → ∀ w', Below w.heap.size w w' → Calls Tryz.prog F (#[.agg #[.int .i64 z, .bool b]] ++ cap) w' fun e w'' => e = .returned (.bool (P (z, b))) ∧ Below w'.heap.size w' w'') := hC
  clear hL hF hC
  go_enter Tryz.func91, Tryz.ntmps91
  go_wp2
  go_loopw [5, 8] (fun _ i wr => ∃ k : Nat, k ≤ L.length ∧ i = .int .i64 k ∧ Hid (∀ p ∈ L.take k, P p = false) ∧ Hid (Below w.heap.size w wr)) (fun _ i _ => L.length - (intOf i).toNat)
  case atStart => exact ⟨0, Nat.zero_le _, rfl, (fun p hp => by simp at hp), Below.refl _ _⟩
  case round =>
    obtain ⟨k, hk, rfl, hn, hB⟩ := hrel
    by_cases hlt : k < L.length
    · obtain ⟨b, off, rfl, _, c0, c1⟩ := HL.out k hlt
      have d0 := ext_cell hB.out c0
      have d1 := ext_cell hB.out c1
      have HS : Hid ((P (L.getD k (0, false)) = true → idxI P L = k) ∧ (P (L.getD k (0, false)) = false → ∀ p ∈ L.take (k + 1), P p = false)) := idx_step P L k hlt hn.out
      have HM : Hid (L.getD k (0, false) ∈ L) := by
        show _ ∈ _
        simp [List.getD, hlt]
      clear c0 c1 hn
      generalize L.getD k (0, false) = pr at *
      obtain ⟨z, t⟩ := pr
      simp only at d0 d1
      have j1 : (0 : Int) ≤ (k : Int) := by omega
      have j2 : (k : Int) < (L.length : Int) := by omega
      go_wp2_with fail
      rw [HF.out, Oper.upon_enter]
      refine (HC.out z t HM.out _ hB.out).mono ?_
      rintro e w1 ⟨rfl, hb1⟩
      have B1 : Hid (Below w.heap.size w w1) := grow_trans hB.out hb1
      clear hb1 hB d0 d1
      cases hp : P (z, t) with
      | true =>
        have HR : Hid (idxI P L = k) := HS.out.1 hp
        clear HS
        go_wp2
        go_ret
        exact ⟨by rw [HR.out]; rfl, B1.out⟩
      | false =>
        have HR : Hid (∀ p ∈ L.take (k + 1), P p = false) := HS.out.2 hp
        clear HS
        go_wp2
        go_roundw
        case rel => exact ⟨k + 1, by omega, by go_num, HR, B1⟩
        case measure => simp [intOf]; omega
    · have HR : Hid (idxI P L = -1) := idx_none P L (by
        have h := hn.out
        rw [List.take_of_length_le (by omega)] at h
        exact h)
      clear hn
      go_wp2
      go_ret
      exact ⟨by rw [HR.out]; rfl, hB.out⟩

set_option maxRecDepth 100000 in
set_option maxHeartbeats 1000000 in
theorem contains87_in (L : List (Int × Bool)) (a : Option Addr) (c : Nat) (F : FuncId) (cap : Array Value) (P : Int × Bool → Bool) (w : World) (hL : IsLks w a L) (hl : L.length ≤ 100)
    (hF : ∀ v w, Sem.run Tryz.prog (callFunc F (#[v] ++ cap)) w = .ok (.enter F (#[v] ++ cap)) w)
    (hC : ∀ z b, (z, b) ∈ L → ∀ w', Below w.heap.size w w' → Calls Tryz.prog F (#[.agg #[.int .i64 z, .bool b]] ++ cap) w' fun e w'' => e = .returned (.bool (P (z, b))) ∧ Below w'.heap.size w' w'') :
    Calls Tryz.prog 75 #[.slice a L.length c, .func (.func F) #[] cap] w fun e w' => e = .returned (.bool (L.any P)) ∧ Below w.heap.size w w' := by
  have H : Hid (Calls Tryz.prog 91 #[.slice a L.length c, .func (.func F) #[] cap] w fun e w' => e = .returned (.int .i64 (idxI P L)) ∧ Below w.heap.size w w') := index101_in L a c F cap P w hL hl hF hC
  have HG : Hid (decide (0 ≤ idxI P L) = L.any P) := idxI_ge P L
  clear hL hF hC
  go_enter Tryz.func75, Tryz.ntmps75
  go_wp2_with fail
  refine H.out.mono ?_
  clear H
  rintro e w1 ⟨rfl, hb⟩
  have B : Hid (Below w.heap.size w w1) := hb
  clear hb
  go_wp2
  go_ret
  exact ⟨by rw [← HG.out]; rfl, B.out⟩


section
variable (la : Option Addr) (lc : Nat) (l : List TxA) (ba : Option Addr) (bc : Nat) (done : List Bool)
/-- The queue of each key. -/
def qOf (l : List TxA) (done : List Bool) (k : Nat) : List (Nat × Bool) := queueK l done k l.length
theorem queuesOf_any (w : World) (hl : IsTxs w la l) (hb : IsBools w ba done) (hE : chkL l = 0) (hd : done.length = l.length) :
    Calls Tryz.prog 59 #[.slice la l.length lc, .slice ba l.length bc] w fun e w' => ∃ (va : Nat → Option Addr) (vc : Nat → Nat), e = .returned (.agg #[.slice (va 0) (qOf l done 0).length (vc 0), .slice (va 1) (qOf l done 1).length (vc 1), .slice (va 2) (qOf l done 2).length (vc 2), .slice (va 3) (qOf l done 3).length (vc 3), .slice (va 4) (qOf l done 4).length (vc 4), .slice (va 5) (qOf l done 5).length (vc 5), .slice (va 6) (qOf l done 6).length (vc 6), .slice (va 7) (qOf l done 7).length (vc 7)]) ∧ (∀ k, k < 8 → IsLks w' (va k) (qI (qOf l done k)) ∧ (qOf l done k).length ≤ vc k) ∧ Below w.heap.size w w' := by
  refine (queuesOf_own la lc l ba bc done w hl hb hE hd).mono ?_
  rintro e w' ⟨vs, rfl, ho, hb⟩
  have : Inhabited (Option Addr × Nat) := ⟨(none, 0)⟩
  obtain ⟨f, hf⟩ := choose_lt (α := Option Addr × Nat) (p := fun k p => vs k = .slice p.1 (qI (qOf l done k)).length p.2 ∧ IsLks w' p.1 (qI (qOf l done k)) ∧ (qI (qOf l done k)).length ≤ p.2) (n := 8) (fun k hk => lksW_of_owns (ho k hk) rfl)
  refine ⟨fun k => (f k).1, fun k => (f k).2, ?_, fun k hk => ⟨(hf k hk).2.1, by have := (hf k hk).2.2; rw [qI_len] at this; exact this⟩, hb⟩
  have e : ∀ k, k < 8 → vs k = .slice (f k).1 (qOf l done k).length (f k).2 := fun k hk => by
    have := (hf k hk).1
    rw [qI_len] at this
    exact this
  rw [e 0 (by omega), e 1 (by omega), e 2 (by omega), e 3 (by omega), e 4 (by omega), e 5 (by omega), e 6 (by omega), e 7 (by omega)]
end

section
variable (q : Nat → List (Nat × Bool)) (va : Nat → Option Addr) (vc : Nat → Nat) (n : Nat)

set_option maxRecDepth 100000 in
set_option maxHeartbeats 2000000 in
theorem cl88 (κ : Nat) (hκ : κ < 8) (t : Bool) (P R : Nat) (w : World) (hP : ∀ k, k < 8 → w.cell? ⟨P, k, none⟩ = some (.slice (va k) (q k).length (vc k))) (hR : w.cell? ⟨R, 0, none⟩ = some (.int .i64 n)) (hQ : IsLks w (va κ) (qI (q κ))) (hc : (q κ).length ≤ vc κ) (hl : (q κ).length ≤ 100) (hm : ∃ p ∈ q κ, p.1 = n) :
    Calls Tryz.prog 76 #[.agg #[.int .i64 κ, .bool t], .pointer (some ⟨P, 0, none⟩), .pointer (some ⟨R, 0, none⟩)] w fun e w' => e = .returned (.bool (!grantedV (q κ) n)) ∧ Below w.heap.size w w' := by
  have g1 : Below w.heap.size w (w.alloc (.cells #[.int .i64 κ, .bool t] 107)) := grow_alloc (Below.refl _ _) _
  have p0 := ext_cell g1 (hP κ hκ)
  have r0 := ext_cell g1 hR
  have y0 : (w.alloc (.cells #[.int .i64 κ, .bool t] 107)).cell? ⟨w.heap.size, 0, none⟩ = some (.int .i64 κ) := by simp
  have CG : Hid (∀ w', Below (w.alloc (.cells #[.int .i64 κ, .bool t] 107)).heap.size (w.alloc (.cells #[.int .i64 κ, .bool t] 107)) w' → Calls Tryz.prog 77 #[.slice (va κ) (q κ).length (vc κ), .int .i64 n] w' fun e w'' => e = .returned (.bool (grantedV (q κ) n)) ∧ Below w'.heap.size w' w'') := fun w' hb => granted_any (q κ) n (va κ) (vc κ) w' (hQ.below (grow_trans g1 hb)) hl hc hm
  have i3 : (0 : Int) ≤ (κ : Int) := by omega
  have i4 : (κ : Int) < 8 := by omega
  clear hP hR hQ hc hl hm
  go_enter Tryz.func76, Tryz.ntmps76
  go_upto_region 1 with fail
  have G1 : Hid (Below w.heap.size w (w.alloc (.cells #[.int .i64 κ, .bool t] 107))) := g1
  clear g1
  generalize w.alloc (.cells #[.int .i64 κ, .bool t] 107) = V at *
  generalize (q κ).length = ql at *
  generalize va κ = v1 at *
  generalize vc κ = v2 at *
  have KS : Hid (∀ w', Below V.heap.size V w' → Below V.heap.size V w' ∧ w'.cell? ⟨P, κ, none⟩ = some (.slice v1 ql v2) ∧ w'.cell? ⟨R, 0, none⟩ = some (.int .i64 n) ∧ w'.cell? ⟨w.heap.size, 0, none⟩ = some (.int .i64 κ)) := fun w' h => ⟨h, ext_cell h p0, ext_cell h r0, ext_cell h y0⟩
  go_region_held3 (fun w' => Below V.heap.size V w' ∧ w'.cell? ⟨P, κ, none⟩ = some (.slice v1 ql v2) ∧ w'.cell? ⟨R, 0, none⟩ = some (.int .i64 n) ∧ w'.cell? ⟨w.heap.size, 0, none⟩ = some (.int .i64 κ)) ((refine KS.out _ ?_; go_split_ands; repeat (first | assumption | exact Below.refl _ _ | refine grow_drew ?_ | refine grow_alloc ?_ _ | refine grow_trans ?_ (by assumption))))
    (first
      | (go_at_call 77; refine (CG.out _ ?_).mono ?_; (go_split_ands; assumption); rintro e wa ⟨rfl, hba⟩))
  all_goals (
    go_split_ands
    have BA : Below V.heap.size V wa := by assumption
    have R1 : Hid (Below w.heap.size w wa) := grow_trans G1.out BA
    clear KS CG p0 r0 y0
    go_wp2
    go_ret
    exact ⟨rfl, R1.out⟩)
end
end Go.Proofs.YtikolifbljnokaaGreat
