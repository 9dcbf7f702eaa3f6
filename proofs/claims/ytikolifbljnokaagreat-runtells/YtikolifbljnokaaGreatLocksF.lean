/-
  locks.Ready, with its errors.
  Conditions: the arguments can be read.
-/
import Derived.Test.YtikolifbljnokaaGreatLocksE
import Derived.WalkKit
import Derived.WalkSpells
import Derived.WalkLawsBesides
import Derived.Defers
import Derived.Recover
import Derived.ProofKit
import Derived.Deep.RegionHeld
import Derived.Deep.RegionHeld3
import Derived.BigQuiet
import Derived.Deep.RegionLaw
import Derived.Deep.DeepCutAuto
import Derived.Maps.AppendAt
namespace Go.Proofs.YtikolifbljnokaaGreat
open Go.RowKit

/-- Is there a truth for each? The errors of both calls; who is ready. -/
def dE (l : List TxA) (done : List Bool) : Int := if done.length = l.length then 0 else 1
def rdE (l : List TxA) (done : List Bool) : Int := firstNZ [chkL l, dE l done]
def nI (L : List Nat) : List Int := L.map Int.ofNat
def rdL (l : List TxA) (done : List Bool) : List Nat := if rdE l done = 0 then readyL l done else []
theorem nI_len (L : List Nat) : (nI L).length = L.length := List.length_map _
theorem nI_app (L M : List Nat) : nI (L ++ M) = nI L ++ nI M := List.map_append
theorem rdE_zero {l : List TxA} {done : List Bool} (h : rdE l done = 0) : chkL l = 0 ∧ done.length = l.length := by
  have hz := firstNZ_zero _ h
  have h1 : chkL l = 0 := by simpa using hz 0
  have h2 : dE l done = 0 := by simpa using hz 1
  refine ⟨h1, ?_⟩
  unfold dE at h2
  split at h2
  · assumption
  · omega

variable (la : Option Addr) (lc : Nat) (l : List TxA) (ba : Option Addr) (bc : Nat) (done : List Bool)

set_option maxRecDepth 100000 in
set_option maxHeartbeats 1000000 in
theorem ready1_pan (p q : Nat) (w : World) (p0 : w.cell? ⟨p, 0, none⟩ = some (.slice la l.length lc)) (q0 : w.cell? ⟨q, 0, none⟩ = some (.slice ba done.length bc)) (hl : IsTxs w la l) (hE : ¬ rdE l done = 0) :
    Calls Tryz.prog 57 #[.pointer (some ⟨p, 0, none⟩), .pointer (some ⟨q, 0, none⟩)] w fun e w' => e = .panicked [{ v := .iface 25 (.int .i64 (rdE l done)), recovered := false }] ∧ Below w.heap.size w w' := by
  have HL : Hid (IsTxs w la l) := hl
  have HE : Hid (¬ firstNZ [chkL l, dE l done] = 0) := hE
  have HV : Hid (rdE l done = firstNZ [chkL l, dE l done]) := rfl
  have KS : Hid (∀ w', Below w.heap.size w w' → Below w.heap.size w w' ∧ w'.cell? ⟨p, 0, none⟩ = some (.slice la l.length lc) ∧ w'.cell? ⟨q, 0, none⟩ = some (.slice ba done.length bc)) := fun w' h => ⟨h, ext_cell h p0, ext_cell h q0⟩
  have C63 : Hid (∀ w', Calls Tryz.prog 58 #[.slice la l.length lc, .slice ba done.length bc] w' fun e w'' => e = .returned (.int .i64 (dE l done)) ∧ Below w'.heap.size w' w'') := fun w' => doneError_any la ba lc bc l.length done.length w'
  clear hl hE
  go_enter Tryz.func57, Tryz.ntmps57
  go_wp2_with fail
  go_region_held (fun w' => Below w.heap.size w w' ∧ w'.cell? ⟨p, 0, none⟩ = some (.slice la l.length lc) ∧ w'.cell? ⟨q, 0, none⟩ = some (.slice ba done.length bc)) ((refine KS.out _ ?_; go_split_ands; repeat (first | assumption | exact Below.refl _ _ | refine grow_drew ?_ | refine grow_alloc ?_ _ | refine grow_trans ?_ (by assumption))))
    (first
      | (go_at_call 58; refine (C63.out _).mono ?_; rintro e wb ⟨rfl, hbb⟩)
      | (go_at_call 24; refine (orderCheck_any la lc l _ ?_).mono ?_; (refine HL.out.below ?_; go_split_ands; repeat (first | assumption | exact Below.refl _ _ | refine grow_drew ?_ | refine grow_alloc ?_ _ | refine grow_trans ?_ (by assumption))); rintro e wa ⟨rfl, hba⟩)
      | (go_at_call 22; refine (panic_or (leave_nz [chkL l, dE l done] _ 2 _ (by simp) HE.out ?_) (.tuple #[])).mono ?_; (exact errs2 _ _ _ _ (by simp)); rintro e w' (⟨rfl, rfl⟩ | ⟨hF, rfl, rfl⟩); (refine ⟨rfl, by rw [HV.out], ?_⟩; go_split_ands; repeat (first | assumption | exact Below.refl _ _ | refine grow_drew ?_ | refine grow_alloc ?_ _ | refine grow_trans ?_ (by assumption)))))
  exact (‹Hid False› : Hid False).out.elim

set_option maxRecDepth 100000 in
set_option maxHeartbeats 4000000 in
theorem ready1_ok (p q : Nat) (w : World) (p0 : w.cell? ⟨p, 0, none⟩ = some (.slice la l.length lc)) (q0 : w.cell? ⟨q, 0, none⟩ = some (.slice ba done.length bc)) (hl : IsTxs w la l) (hb : IsBools w ba done) (hE : rdE l done = 0) :
    Calls Tryz.prog 57 #[.pointer (some ⟨p, 0, none⟩), .pointer (some ⟨q, 0, none⟩)] w fun e w' => ∃ v, e = .returned v ∧ w'.ownsRow w.heap.size 3 1 v (nI (readyL l done)).length ((nI (readyL l done)).map (Value.int .i64)) ∧ Below w.heap.size w w' := by
  obtain ⟨i0, hi, hz0, hz1, hz2⟩ := info_parts Tryz.info3
  obtain ⟨hC, hd⟩ := rdE_zero hE
  have hl8 := chkL_small hC
  have HL : Hid (IsTxs w la l) := hl
  have HBo : Hid (IsBools w ba done) := hb
  have HE : Hid (firstNZ [chkL l, dE l done] = 0) := hE
  have HC : Hid (chkL l = 0) := hC
  have HD : Hid (done.length = l.length) := hd
  have KS : Hid (∀ w', Below w.heap.size w w' → Below w.heap.size w w' ∧ w'.cell? ⟨p, 0, none⟩ = some (.slice la l.length lc) ∧ w'.cell? ⟨q, 0, none⟩ = some (.slice ba done.length bc)) := fun w' h => ⟨h, ext_cell h p0, ext_cell h q0⟩
  have C63 : Hid (∀ w', Calls Tryz.prog 58 #[.slice la l.length lc, .slice ba done.length bc] w' fun e w'' => e = .returned (.int .i64 (dE l done)) ∧ Below w'.heap.size w' w'') := fun w' => doneError_any la ba lc bc l.length done.length w'
  have C65 : Hid (∀ w', Below w.heap.size w w' → Calls Tryz.prog 59 #[.slice la l.length lc, .slice ba done.length bc] w' fun e w'' => ∃ (va : Nat → Option Addr) (vc : Nat → Nat), e = .returned (.agg #[.slice (va 0) (qOf l done 0).length (vc 0), .slice (va 1) (qOf l done 1).length (vc 1), .slice (va 2) (qOf l done 2).length (vc 2), .slice (va 3) (qOf l done 3).length (vc 3), .slice (va 4) (qOf l done 4).length (vc 4), .slice (va 5) (qOf l done 5).length (vc 5), .slice (va 6) (qOf l done 6).length (vc 6), .slice (va 7) (qOf l done 7).length (vc 7)]) ∧ Hid (∀ k, k < 8 → IsLks w'' (va k) (qI (qOf l done k)) ∧ (qOf l done k).length ≤ vc k) ∧ Below w'.heap.size w' w'') := fun w' h => by
    have h2 := queuesOf_any la lc l ba bc done w' (hl.below h) (hb.below h) hC hd
    have e2 : Value.slice ba l.length bc = Value.slice ba done.length bc := by rw [hd]
    rw [e2] at h2
    exact h2
  clear hl hb hE hC hd
  go_enter Tryz.func57, Tryz.ntmps57
  go_wp2_with fail
  go_region_held3 (fun w' => Below w.heap.size w w' ∧ w'.cell? ⟨p, 0, none⟩ = some (.slice la l.length lc) ∧ w'.cell? ⟨q, 0, none⟩ = some (.slice ba done.length bc)) ((refine KS.out _ ?_; go_split_ands; repeat (first | assumption | exact Below.refl _ _ | refine grow_drew ?_ | refine grow_alloc ?_ _ | refine grow_trans ?_ (by assumption))))
    (first
      | (go_at_call 58; refine (C63.out _).mono ?_; rintro e wb ⟨rfl, hbb⟩)
      | (go_at_call 24; refine (orderCheck_any la lc l _ ?_).mono ?_; (refine HL.out.below ?_; go_split_ands; repeat (first | assumption | exact Below.refl _ _ | refine grow_drew ?_ | refine grow_alloc ?_ _ | refine grow_trans ?_ (by assumption))); rintro e wa ⟨rfl, hba⟩)
      | (go_at_call 22; refine (leave_zero [chkL l, dE l done] _ 2 _ (by simp) HE.out ?_).mono ?_; (exact errs2 _ _ _ _ (by simp)); rintro e w' ⟨rfl, rfl⟩))
  all_goals (
    go_split_ands
    have BB : Below w.heap.size w (wb.alloc (.cells #[.int .i64 (chkL l), .int .i64 (dE l done)] 25)) := by assumption
    obtain ⟨_, p1, q1⟩ := KS.out _ BB
    have HB : Hid (Below w.heap.size w (wb.alloc (.cells #[.int .i64 (chkL l), .int .i64 (dE l done)] 25))) := BB
    clear BB hba hbb C63
    generalize wb.alloc (.cells #[.int .i64 (chkL l), .int .i64 (dE l done)] 25) = W at *
    go_wp2_with fail
    refine (C65.out _ HB.out).mono ?_
    rintro e w1 ⟨va, vc, rfl, hQ, hb1⟩
    have B1 : Hid (Below w.heap.size w w1) := grow_trans HB.out hb1
    clear C65 hb1 p1 q1 HB
    go_upto_region 3 with fail
    have BA : Below w1.heap.size w1 (w1.alloc (.cells #[.slice (va 0) (qOf l done 0).length (vc 0), .slice (va 1) (qOf l done 1).length (vc 1), .slice (va 2) (qOf l done 2).length (vc 2), .slice (va 3) (qOf l done 3).length (vc 3), .slice (va 4) (qOf l done 4).length (vc 4), .slice (va 5) (qOf l done 5).length (vc 5), .slice (va 6) (qOf l done 6).length (vc 6), .slice (va 7) (qOf l done 7).length (vc 7)] 94)) := grow_alloc (Below.refl _ _) _
    have c0 : (w1.alloc (.cells #[.slice (va 0) (qOf l done 0).length (vc 0), .slice (va 1) (qOf l done 1).length (vc 1), .slice (va 2) (qOf l done 2).length (vc 2), .slice (va 3) (qOf l done 3).length (vc 3), .slice (va 4) (qOf l done 4).length (vc 4), .slice (va 5) (qOf l done 5).length (vc 5), .slice (va 6) (qOf l done 6).length (vc 6), .slice (va 7) (qOf l done 7).length (vc 7)] 94)).cell? ⟨w1.heap.size, 0, none⟩ = some (.slice (va 0) (qOf l done 0).length (vc 0)) := at_new _ _ 94 _ 0 _ rfl rfl
    have c1 : (w1.alloc (.cells #[.slice (va 0) (qOf l done 0).length (vc 0), .slice (va 1) (qOf l done 1).length (vc 1), .slice (va 2) (qOf l done 2).length (vc 2), .slice (va 3) (qOf l done 3).length (vc 3), .slice (va 4) (qOf l done 4).length (vc 4), .slice (va 5) (qOf l done 5).length (vc 5), .slice (va 6) (qOf l done 6).length (vc 6), .slice (va 7) (qOf l done 7).length (vc 7)] 94)).cell? ⟨w1.heap.size, 1, none⟩ = some (.slice (va 1) (qOf l done 1).length (vc 1)) := at_new _ _ 94 _ 1 _ rfl rfl
    have c2 : (w1.alloc (.cells #[.slice (va 0) (qOf l done 0).length (vc 0), .slice (va 1) (qOf l done 1).length (vc 1), .slice (va 2) (qOf l done 2).length (vc 2), .slice (va 3) (qOf l done 3).length (vc 3), .slice (va 4) (qOf l done 4).length (vc 4), .slice (va 5) (qOf l done 5).length (vc 5), .slice (va 6) (qOf l done 6).length (vc 6), .slice (va 7) (qOf l done 7).length (vc 7)] 94)).cell? ⟨w1.heap.size, 2, none⟩ = some (.slice (va 2) (qOf l done 2).length (vc 2)) := at_new _ _ 94 _ 2 _ rfl rfl
    have c3 : (w1.alloc (.cells #[.slice (va 0) (qOf l done 0).length (vc 0), .slice (va 1) (qOf l done 1).length (vc 1), .slice (va 2) (qOf l done 2).length (vc 2), .slice (va 3) (qOf l done 3).length (vc 3), .slice (va 4) (qOf l done 4).length (vc 4), .slice (va 5) (qOf l done 5).length (vc 5), .slice (va 6) (qOf l done 6).length (vc 6), .slice (va 7) (qOf l done 7).length (vc 7)] 94)).cell? ⟨w1.heap.size, 3, none⟩ = some (.slice (va 3) (qOf l done 3).length (vc 3)) := at_new _ _ 94 _ 3 _ rfl rfl
    have c4 : (w1.alloc (.cells #[.slice (va 0) (qOf l done 0).length (vc 0), .slice (va 1) (qOf l done 1).length (vc 1), .slice (va 2) (qOf l done 2).length (vc 2), .slice (va 3) (qOf l done 3).length (vc 3), .slice (va 4) (qOf l done 4).length (vc 4), .slice (va 5) (qOf l done 5).length (vc 5), .slice (va 6) (qOf l done 6).length (vc 6), .slice (va 7) (qOf l done 7).length (vc 7)] 94)).cell? ⟨w1.heap.size, 4, none⟩ = some (.slice (va 4) (qOf l done 4).length (vc 4)) := at_new _ _ 94 _ 4 _ rfl rfl
    have c5 : (w1.alloc (.cells #[.slice (va 0) (qOf l done 0).length (vc 0), .slice (va 1) (qOf l done 1).length (vc 1), .slice (va 2) (qOf l done 2).length (vc 2), .slice (va 3) (qOf l done 3).length (vc 3), .slice (va 4) (qOf l done 4).length (vc 4), .slice (va 5) (qOf l done 5).length (vc 5), .slice (va 6) (qOf l done 6).length (vc 6), .slice (va 7) (qOf l done 7).length (vc 7)] 94)).cell? ⟨w1.heap.size, 5, none⟩ = some (.slice (va 5) (qOf l done 5).length (vc 5)) := at_new _ _ 94 _ 5 _ rfl rfl
    have c6 : (w1.alloc (.cells #[.slice (va 0) (qOf l done 0).length (vc 0), .slice (va 1) (qOf l done 1).length (vc 1), .slice (va 2) (qOf l done 2).length (vc 2), .slice (va 3) (qOf l done 3).length (vc 3), .slice (va 4) (qOf l done 4).length (vc 4), .slice (va 5) (qOf l done 5).length (vc 5), .slice (va 6) (qOf l done 6).length (vc 6), .slice (va 7) (qOf l done 7).length (vc 7)] 94)).cell? ⟨w1.heap.size, 6, none⟩ = some (.slice (va 6) (qOf l done 6).length (vc 6)) := at_new _ _ 94 _ 6 _ rfl rfl
    have c7 : (w1.alloc (.cells #[.slice (va 0) (qOf l done 0).length (vc 0), .slice (va 1) (qOf l done 1).length (vc 1), .slice (va 2) (qOf l done 2).length (vc 2), .slice (va 3) (qOf l done 3).length (vc 3), .slice (va 4) (qOf l done 4).length (vc 4), .slice (va 5) (qOf l done 5).length (vc 5), .slice (va 6) (qOf l done 6).length (vc 6), .slice (va 7) (qOf l done 7).length (vc 7)] 94)).cell? ⟨w1.heap.size, 7, none⟩ = some (.slice (va 7) (qOf l done 7).length (vc 7)) := at_new _ _ 94 _ 7 _ rfl rfl
    have HBA : Hid (Below w.heap.size w (w1.alloc (.cells #[.slice (va 0) (qOf l done 0).length (vc 0), .slice (va 1) (qOf l done 1).length (vc 1), .slice (va 2) (qOf l done 2).length (vc 2), .slice (va 3) (qOf l done 3).length (vc 3), .slice (va 4) (qOf l done 4).length (vc 4), .slice (va 5) (qOf l done 5).length (vc 5), .slice (va 6) (qOf l done 6).length (vc 6), .slice (va 7) (qOf l done 7).length (vc 7)] 94))) := grow_trans B1.out BA
    have hQa : Hid (∀ k, k < 8 → IsLks (w1.alloc (.cells #[.slice (va 0) (qOf l done 0).length (vc 0), .slice (va 1) (qOf l done 1).length (vc 1), .slice (va 2) (qOf l done 2).length (vc 2), .slice (va 3) (qOf l done 3).length (vc 3), .slice (va 4) (qOf l done 4).length (vc 4), .slice (va 5) (qOf l done 5).length (vc 5), .slice (va 6) (qOf l done 6).length (vc 6), .slice (va 7) (qOf l done 7).length (vc 7)] 94)) (va k) (qI (qOf l done k)) ∧ (qOf l done k).length ≤ vc k) := fun k hk => ⟨(hQ.out k hk).1.below BA, (hQ.out k hk).2⟩
    obtain ⟨_, p2, q2⟩ := KS.out _ HBA.out
    clear BA B1 hQ KS
    generalize w1.alloc (.cells #[.slice (va 0) (qOf l done 0).length (vc 0), .slice (va 1) (qOf l done 1).length (vc 1), .slice (va 2) (qOf l done 2).length (vc 2), .slice (va 3) (qOf l done 3).length (vc 3), .slice (va 4) (qOf l done 4).length (vc 4), .slice (va 5) (qOf l done 5).length (vc 5), .slice (va 6) (qOf l done 6).length (vc 6), .slice (va 7) (qOf l done 7).length (vc 7)] 94) = V at *
    generalize w1.heap.size = Z at *
    go_wp2
    go_loopw [4, 5, 6, 19] (fun v _ _ i wr => ∃ n : Nat, n ≤ l.length ∧ i = .int .i64 n ∧ wr.ownsRow V.heap.size 3 1 v (nI (readyTo l done n)).length ((nI (readyTo l done n)).map (Value.int .i64)) ∧ Below V.heap.size V wr) (fun _ _ _ i _ => l.length - (intOf i).toNat)
    case atStart => exact ⟨0, Nat.zero_le _, rfl, World.ownsRow_nil _ _ _ _, Below.refl _ _⟩
    case round =>
      obtain ⟨n, hn, rfl, hown, hnx⟩ := hrel
      by_cases hlt : n < l.length
      · obtain ⟨b, off, rfl, _, e0, e1, e2, hx⟩ := HL.out n hlt
        obtain ⟨b2, off2, rfl, _, e3⟩ := HBo.out n (by rw [HD.out]; exact hlt)
        have BW : Hid (Below w.heap.size w wr) := grow_trans HBA.out hnx
        have d0 := ext_cell BW.out e0
        have d1 := ext_cell BW.out e1
        have d2 := ext_cell BW.out e2
        have d3 : wr.cell? ⟨b2, off2 + n, none⟩ = some (.bool (dn done n)) := ext_cell BW.out e3
        have p3 := ext_cell hnx p2
        have q3 := ext_cell hnx q2
        have hll := readyTo_len l done n
        have HS : Hid (readyTo l done (n + 1) = readyTo l done n ++ (if readyX l done n = true then [n] else [])) := readyTo_step l done n
        have HG : Hid (readyX l done n = (!dn done n && grantedAll l done n)) := grantedAll_ready l done n hlt
        have CG : Hid (dn done n = false → ∀ w', Below wr.heap.size wr w' → Calls Tryz.prog 60 #[.agg #[.slice (va 0) (qOf l done 0).length (vc 0), .slice (va 1) (qOf l done 1).length (vc 1), .slice (va 2) (qOf l done 2).length (vc 2), .slice (va 3) (qOf l done 3).length (vc 3), .slice (va 4) (qOf l done 4).length (vc 4), .slice (va 5) (qOf l done 5).length (vc 5), .slice (va 6) (qOf l done 6).length (vc 6), .slice (va 7) (qOf l done 7).length (vc 7)], .int .i64 n, .agg #[.slice (l.getD n x0).ra (l.getD n x0).rs.length (l.getD n x0).rc, .slice (l.getD n x0).ga (l.getD n x0).gs.length (l.getD n x0).gc, .slice (l.getD n x0).sa (l.getD n x0).ss.length (l.getD n x0).sc]] w' fun e w'' => e = .returned (.bool (grantedAll l done n)) ∧ Below w'.heap.size w' w'') := fun hd w' hb => grantedAll_any l done va vc n (l.getD n x0) rfl w' ((hx.below BW.out).below hb) (chkL_at0 HC.out n hlt) hlt hl8 hd (fun k hk => ⟨((hQa.out k hk).1.below hnx).below hb, (hQa.out k hk).2⟩)
        clear e0 e1 e2 e3 hx
        generalize l.getD n x0 = x at *
        obtain ⟨ra, ga, sa, rc, gc, sc, rs, gs, ss⟩ := x
        simp only at d0 d1 d2 CG
        have j1 : (0 : Int) ≤ (n : Int) := by omega
        have j2 : (n : Int) < (l.length : Int) := by omega
        have j3 : (n : Int) < (done.length : Int) := by have := HD.out; omega
        have k0 := ext_cell hnx c0
        have k1 := ext_cell hnx c1
        have k2 := ext_cell hnx c2
        have k3 := ext_cell hnx c3
        have k4 := ext_cell hnx c4
        have k5 := ext_cell hnx c5
        have k6 := ext_cell hnx c6
        have k7 := ext_cell hnx c7
        go_upto_region 7 with fail
        have BA : Below wr.heap.size wr (wr.alloc (.cells #[.slice ra rs.length rc, .slice ga gs.length gc, .slice sa ss.length sc] 38)) := grow_alloc (Below.refl _ _) _
        have p4 := ext_cell BA p3
        have q4 := ext_cell BA q3
        have d4 := ext_cell BA d3
        have m0 := ext_cell BA k0
        have m1 := ext_cell BA k1
        have m2 := ext_cell BA k2
        have m3 := ext_cell BA k3
        have m4 := ext_cell BA k4
        have m5 := ext_cell BA k5
        have m6 := ext_cell BA k6
        have m7 := ext_cell BA k7
        have y0 : (wr.alloc (.cells #[.slice ra rs.length rc, .slice ga gs.length gc, .slice sa ss.length sc] 38)).cell? ⟨wr.heap.size, 0, none⟩ = some (.slice ra rs.length rc) := by simp
        have y1 : (wr.alloc (.cells #[.slice ra rs.length rc, .slice ga gs.length gc, .slice sa ss.length sc] 38)).cell? ⟨wr.heap.size, 1, none⟩ = some (.slice ga gs.length gc) := by simp
        have y2 : (wr.alloc (.cells #[.slice ra rs.length rc, .slice ga gs.length gc, .slice sa ss.length sc] 38)).cell? ⟨wr.heap.size, 2, none⟩ = some (.slice sa ss.length sc) := by simp
        have ho1 : (wr.alloc (.cells #[.slice ra rs.length rc, .slice ga gs.length gc, .slice sa ss.length sc] 38)).ownsRow V.heap.size 3 1 u4 (nI (readyTo l done n)).length ((nI (readyTo l done n)).map (Value.int .i64)) := hown.alloc _
        have hnx1 : Below V.heap.size V (wr.alloc (.cells #[.slice ra rs.length rc, .slice ga gs.length gc, .slice sa ss.length sc] 38)) := grow_trans hnx BA
        have CG1 : Hid (dn done n = false → Calls Tryz.prog 60 #[.agg #[.slice (va 0) (qOf l done 0).length (vc 0), .slice (va 1) (qOf l done 1).length (vc 1), .slice (va 2) (qOf l done 2).length (vc 2), .slice (va 3) (qOf l done 3).length (vc 3), .slice (va 4) (qOf l done 4).length (vc 4), .slice (va 5) (qOf l done 5).length (vc 5), .slice (va 6) (qOf l done 6).length (vc 6), .slice (va 7) (qOf l done 7).length (vc 7)], .int .i64 n, .agg #[.slice ra rs.length rc, .slice ga gs.length gc, .slice sa ss.length sc]] (wr.alloc (.cells #[.slice ra rs.length rc, .slice ga gs.length gc, .slice sa ss.length sc] 38)) fun e w'' => e = .returned (.bool (grantedAll l done n)) ∧ Below (wr.alloc (.cells #[.slice ra rs.length rc, .slice ga gs.length gc, .slice sa ss.length sc] 38)).heap.size (wr.alloc (.cells #[.slice ra rs.length rc, .slice ga gs.length gc, .slice sa ss.length sc] 38)) w'') := fun h => CG.out h _ BA
        clear BA hown hnx p3 q3 d0 d1 d2 d3 CG k0 k1 k2 k3 k4 k5 k6 k7
        generalize wr.alloc (.cells #[.slice ra rs.length rc, .slice ga gs.length gc, .slice sa ss.length sc] 38) = U at *
        generalize wr.heap.size = Y at *
        generalize hdd : dn done n = dd at *
        clear hdd
        cases dd with
        | true =>
          have HR : Hid (readyTo l done (n + 1) = readyTo l done n) := by
            show _ = _
            rw [HS.out, HG.out]
            simp
          clear HS HG CG1
          go_wp2
          go_roundw
          case rel => exact ⟨n + 1, by omega, by go_num, by rw [HR.out]; exact ho1, hnx1⟩
          case measure => simp [intOf]; omega
        | false =>
          have CG2 := CG1.out rfl
          clear CG1
          go_wp2_with fail
          refine CG2.mono ?_
          clear CG2
          rintro e w5 ⟨rfl, hb5⟩
          have ho2 := owns_below ho1 hb5
          have hnx2 : Below V.heap.size V w5 := grow_trans hnx1 hb5
          have hsz : V.heap.size ≤ w5.heap.size := hnx2.size
          clear ho1 hnx1 hb5 p4 q4 d4 m0 m1 m2 m3 m4 m5 m6 m7 y0 y1 y2
          generalize grantedAll l done n = gr at *
          cases gr with
          | true =>
            have HR : Hid (nI (readyTo l done (n + 1)) = nI (readyTo l done n) ++ [(n : Int)]) := by
              show _ = _
              rw [HS.out, HG.out, nI_app]
              rfl
            have hnl : (nI (readyTo l done n)).length ≤ 8 := by rw [nI_len]; omega
            clear HS HG
            go_wp2_with (first
              | (at_builtin; refine wpList_append_own _ rfl _ _ 22 rfl V.heap.size 3 i0 (.int .i64 0) 1 8 Tryz.underlying22 hi hz0 hz1 hz2 rfl (by decide) _ _ _ rfl (ho2.alloc _) ⟨w5.heap.size, 0, none⟩ 1 1 [.int .i64 n] rfl rfl (news_at _ _ _ (by simp)) (ints_oneCell .i64 [(n : Int)]) (by unfold maxLen; omega) (by omega) (by simp; omega) ?_; intro v' w6 hown' hgrow _)
              | go_in)
            have R : w6.ownsRow V.heap.size 3 1 v' (nI (readyTo l done (n + 1))).length ((nI (readyTo l done (n + 1))).map (Value.int .i64)) := by rw [HR.out, List.map_append, List.length_append]; exact hown'
            have RB := (hnx2.alloc hsz _).grown hgrow (by simp; omega) (fun j hj => (ho2.lt j hj).1)
            clear hown' hgrow ho2 hnx2
            go_wp2
            go_roundw
            case rel => exact ⟨n + 1, by omega, by go_num, R, RB⟩
            case measure => simp [intOf]; omega
          | false =>
            have HR : Hid (readyTo l done (n + 1) = readyTo l done n) := by
              show _ = _
              rw [HS.out, HG.out]
              simp
            clear HS HG
            go_wp2
            go_roundw
            case rel => exact ⟨n + 1, by omega, by go_num, by rw [HR.out]; exact ho2, hnx2⟩
            case measure => simp [intOf]; omega
      · have hnn : n = l.length := by omega
        have R : Hid (wr.ownsRow w.heap.size 3 1 u4 (nI (readyL l done)).length ((nI (readyL l done)).map (Value.int .i64))) := by
          have h := hown
          rw [hnn] at h
          exact own_low h HBA.out.size
        have RB : Hid (Below w.heap.size w wr) := grow_trans HBA.out hnx
        clear hown hnx
        go_wp2
        go_ret
        exact ⟨_, rfl, R.out, RB.out⟩)

set_option maxRecDepth 100000 in
set_option maxHeartbeats 1000000 in
theorem ready_by (k : Nat) (x : Int) (Q : Option Addr → World → Prop) (w : World)
    (h : Calls Tryz.prog 56 #[.func (.func 57) #[] #[.pointer (some ⟨w.heap.size, 0, none⟩), .pointer (some ⟨w.heap.size + 1, 0, none⟩)]] ((w.alloc (.cells #[.slice la l.length lc] 23)).alloc (.cells #[.slice ba done.length bc] 44)) fun e w' => ∃ a c, e = .returned (.tuple #[.slice a k c, .int .i64 x]) ∧ Q a w' ∧ Below w.heap.size w w') :
    Calls Tryz.prog 40 #[.slice la l.length lc, .slice ba done.length bc] w fun e w' => ∃ a c, e = .returned (.tuple #[.slice a k c, .int .i64 x]) ∧ Q a w' ∧ Below w.heap.size w w' := by
  have hmf : ∀ (fn : Fn) (first cap : Array Value) (w : World), (Instr.makeFunc fn first cap).run Tryz.prog w = .ok (.func fn first cap) w := fun _ _ _ _ => rfl
  have H : Hid (Calls Tryz.prog 56 #[.func (.func 57) #[] #[.pointer (some ⟨w.heap.size, 0, none⟩), .pointer (some ⟨w.heap.size + 1, 0, none⟩)]] ((w.alloc (.cells #[.slice la l.length lc] 23)).alloc (.cells #[.slice ba done.length bc] 44)) fun e w' => ∃ a c, e = .returned (.tuple #[.slice a k c, .int .i64 x]) ∧ Q a w' ∧ Below w.heap.size w w') := h
  clear h
  go_enter Tryz.func40, Tryz.ntmps40
  go_wp2_with fail
  refine H.out.mono ?_
  clear H
  rintro e w1 ⟨a, c, rfl, hq, hb⟩
  have hB : Hid (Below w.heap.size w w1) := hb
  have hQ : Hid (Q a w1) := hq
  clear hb hq
  go_wp2
  go_ret2
  exact ⟨a, c, rfl, hQ.out, hB.out⟩

set_option maxRecDepth 100000 in
theorem ready_any (w : World) (hl : IsTxs w la l) (hb : IsBools w ba done) :
    Calls Tryz.prog 40 #[.slice la l.length lc, .slice ba done.length bc] w fun e w' => ∃ a c, e = .returned (.tuple #[.slice a (nI (rdL l done)).length c, .int .i64 (rdE l done)]) ∧ IsInts w' a (nI (rdL l done)) ∧ Below w.heap.size w w' := by
  have g1 : Below w.heap.size w ((w.alloc (.cells #[.slice la l.length lc] 23)).alloc (.cells #[.slice ba done.length bc] 44)) := grow_alloc (grow_alloc (Below.refl _ _) _) _
  refine ready_by la lc l ba bc done _ _ (fun a w' => IsInts w' a (nI (rdL l done))) w ?_
  have p : (((w.alloc (.cells #[.slice la l.length lc] 23)).alloc (.cells #[.slice ba done.length bc] 44)).alloc (.cells #[.int .i64 0] 25)).cell? ⟨w.heap.size, 0, none⟩ = some (.slice la l.length lc) := by
    rw [World.cell?_alloc_lt _ _ _ (by simp; omega), World.cell?_alloc_lt _ _ _ (by simp)]; simp
  have q : (((w.alloc (.cells #[.slice la l.length lc] 23)).alloc (.cells #[.slice ba done.length bc] 44)).alloc (.cells #[.int .i64 0] 25)).cell? ⟨w.heap.size + 1, 0, none⟩ = some (.slice ba done.length bc) := by
    rw [World.cell?_alloc_lt _ _ _ (by simp)]; simp
  generalize (w.alloc (.cells #[.slice la l.length lc] 23)).alloc (.cells #[.slice ba done.length bc] 44) = W at *
  have hl' : IsTxs (W.alloc (.cells #[.int .i64 0] 25)) la l := hl.below (grow_alloc g1 _)
  have hb' : IsBools (W.alloc (.cells #[.int .i64 0] 25)) ba done := hb.below (grow_alloc g1 _)
  by_cases he : rdE l done = 0
  · have e1 : rdL l done = readyL l done := if_pos he
    rw [e1, he]
    refine (caughtIn_ret 57 _ (fun _ => rfl) (fun v w' => w'.ownsRow (W.heap.size + 1) 3 1 v (nI (readyL l done)).length ((nI (readyL l done)).map (Value.int .i64))) W ?_ ((ready1_ok la lc l ba bc done _ _ _ p q hl' hb' he).mono ?_)).mono ?_
    · intro v w' ho
      exact own_kept ho (grown_one w' W.heap.size 0 _) (fun b hv e => by have := (ho.lt b hv).1; injection e with e; omega)
    · rintro e w' ⟨v, rfl, ho, hb⟩
      exact ⟨v, rfl, by simpa using ho, hb.mono (by simp)⟩
    · rintro e w' ⟨v, rfl, ho, hb⟩
      obtain ⟨a, c, rfl, h⟩ := ints_of_owns ho
      exact ⟨a, c, rfl, h, grow_trans g1 hb⟩
  · have e1 : rdL l done = [] := if_neg he
    rw [e1]
    refine (caughtIn_pan 57 _ (fun _ => rfl) (rdE l done) W ((ready1_pan la lc l ba bc done _ _ _ p q hl' he).mono ?_)).mono ?_
    · rintro e w' ⟨rfl, hb⟩
      exact ⟨rfl, hb.mono (by simp)⟩
    · rintro e w' ⟨rfl, hb⟩
      exact ⟨none, 0, rfl, fun i hi => absurd hi (by simp [nI]), grow_trans g1 hb⟩
end Go.Proofs.YtikolifbljnokaaGreat
