/-
  The document's own QueueError, QueueOf, ready and ReadyOf.
  Conditions: the arguments can be read.
-/
import Derived.Test.YtikolifbljnokaaGreatLocksA
import Derived.Test.YtikolifbljnokaaGreatGraphC
import Derived.Test.YtikolifbljnokaaGreatGraphD
import Derived.Test.YtikolifbljnokaaGreatLocksF
import Derived.WalkKit
import Derived.WalkSpells
import Derived.WalkLawsBesides
import Derived.ProofKit
import Derived.Deep.RegionHeld
import Derived.Deep.RegionHeld3
import Derived.BigQuiet
import Derived.Deep.RegionLaw
import Derived.Deep.DeepCutAuto
import Derived.Maps.AppendAt
namespace Go.Proofs.YtikolifbljnokaaGreat
open Go.RowKit

variable (la : Option Addr) (lc : Nat) (l : List TxA) (ba : Option Addr) (bc : Nat) (done : List Bool)

set_option maxRecDepth 100000 in
set_option maxHeartbeats 4000000 in
theorem docReady_any (n : Nat) (hn : n < l.length) (w : World) (hl : IsTxs w la l) (hb : IsBools w ba done) (hd : done.length = l.length) (hl8 : l.length ≤ 8) :
    Calls Tryz.prog 15 #[.slice la l.length lc, .slice ba done.length bc, .int .i64 n] w fun e w' => e = .returned (.bool (readyX l done n)) ∧ Below w.heap.size w w' := by
  have HL : Hid (IsTxs w la l) := hl
  have HBo : Hid (IsBools w ba done) := hb
  have HD : Hid (done.length = l.length) := hd
  have HF0 : Hid (freeTo l done n 0 = true) := rfl
  have HRX : Hid (readyX l done n = (!dn done n && freeTo l done n n)) := rfl
  have HDN : Hid (∀ k, k < n → freeTo l done n (k + 1) = false → readyX l done n = false) := fun k hk h => by
    have h2 : freeTo l done n n = false := by
      unfold freeTo at h ⊢
      rw [List.all_eq_false] at h ⊢
      obtain ⟨j, hj, hc⟩ := h
      exact ⟨j, List.mem_range.2 (by have := List.mem_range.1 hj; omega), hc⟩
    unfold readyX
    rw [h2]
    simp
  clear hl hb hd
  go_enter Tryz.func15, Tryz.ntmps15
  go_wp2
  go_loopw [7] (fun i wr => ∃ k : Nat, k ≤ n ∧ i = .int .i64 k ∧ Hid (freeTo l done n k = true) ∧ Hid (Below w.heap.size w wr)) (fun i _ => n - (intOf i).toNat)
  case atStart => exact ⟨0, Nat.zero_le _, rfl, HF0, Below.refl _ _⟩
  case round =>
    obtain ⟨k, hk, rfl, hF, hB⟩ := hrel
    by_cases hlt : k < n
    · obtain ⟨b, off, rfl, _, e0, e1, e2, hx⟩ := HL.out k (by omega)
      obtain ⟨b', off', hbe, _, f0, f1, f2, hy⟩ := HL.out n hn
      injection hbe with hbe
      injection hbe with q1 q2 _
      subst q1 q2
      obtain ⟨b2, off2, rfl, _, e3⟩ := HBo.out k (by rw [HD.out]; omega)
      have d0 := ext_cell hB.out e0
      have d1 := ext_cell hB.out e1
      have d2 := ext_cell hB.out e2
      have d3 := ext_cell hB.out f0
      have d4 := ext_cell hB.out f1
      have d5 := ext_cell hB.out f2
      have d6 : wr.cell? ⟨b2, off2 + k, none⟩ = some (.bool (dn done k)) := ext_cell hB.out e3
      have HS : Hid (freeTo l done n (k + 1) = (dn done k || !clashX (gX l k) (gX l n))) := by
        show _ = _
        rw [freeTo_step, hF.out]
        rfl
      have HN := HDN.out k hlt
      have C19 : Hid (∀ w', Below wr.heap.size wr w' → Calls Tryz.prog 32 #[.agg #[.slice (l.getD k x0).ra (l.getD k x0).rs.length (l.getD k x0).rc, .slice (l.getD k x0).ga (l.getD k x0).gs.length (l.getD k x0).gc, .slice (l.getD k x0).sa (l.getD k x0).ss.length (l.getD k x0).sc], .agg #[.slice (l.getD n x0).ra (l.getD n x0).rs.length (l.getD n x0).rc, .slice (l.getD n x0).ga (l.getD n x0).gs.length (l.getD n x0).gc, .slice (l.getD n x0).sa (l.getD n x0).ss.length (l.getD n x0).sc]] w' fun e w'' => e = .returned (.bool (clashX (gX l k) (gX l n))) ∧ Below w'.heap.size w' w'') := fun w' h => clashes_any _ _ w' ((hx.below hB.out).below h) ((hy.below hB.out).below h)
      clear e0 e1 e2 e3 f0 f1 f2 hx hy hF
      generalize clashX (gX l k) (gX l n) = c at *
      generalize dn done k = dd at *
      generalize l.getD k x0 = x at *
      generalize l.getD n x0 = y at *
      obtain ⟨ra, ga, sa, rc, gc, sc, rs, gs, ss⟩ := x
      obtain ⟨ra', ga', sa', rc', gc', sc', rs', gs', ss'⟩ := y
      simp only at d0 d1 d2 d3 d4 d5 C19
      have KS : Hid (∀ w', Below wr.heap.size wr w' → Below wr.heap.size wr w' ∧ w'.cell? ⟨b2, off2 + k, none⟩ = some (.bool dd) ∧ w'.cell? ⟨b, off + k * 3, none⟩ = some (.slice ra rs.length rc) ∧ w'.cell? ⟨b, off + k * 3 + 1, none⟩ = some (.slice ga gs.length gc) ∧ w'.cell? ⟨b, off + k * 3 + 2, none⟩ = some (.slice sa ss.length sc) ∧ w'.cell? ⟨b, off + n * 3, none⟩ = some (.slice ra' rs'.length rc') ∧ w'.cell? ⟨b, off + n * 3 + 1, none⟩ = some (.slice ga' gs'.length gc') ∧ w'.cell? ⟨b, off + n * 3 + 2, none⟩ = some (.slice sa' ss'.length sc')) := fun w' h => ⟨h, ext_cell h d6, ext_cell h d0, ext_cell h d1, ext_cell h d2, ext_cell h d3, ext_cell h d4, ext_cell h d5⟩
      have i1 : (0 : Int) ≤ (n : Int) := by omega
      have i2 : (n : Int) < (l.length : Int) := by omega
      have i3 : (0 : Int) ≤ (k : Int) := by omega
      have i4 : (k : Int) < (l.length : Int) := by omega
      have i5 : (k : Int) < (done.length : Int) := by have := HD.out; omega
      have i6 : (k : Int) < (n : Int) := by omega
      cases dd with
      | true =>
        have HT : Hid (freeTo l done n (k + 1) = true) := HS.out
        clear HS C19 HN
        clear KS
        go_upto_region 4 with fail
        go_quiet (fail)
        go_wp2
        go_roundw
        case rel => exact ⟨k + 1, by omega, by go_num, HT, below_drewN hB.out _⟩
        case measure => simp [intOf]; omega
      | false =>
        go_upto_region 4 with fail
        go_region_held3 (fun w' => Below wr.heap.size wr w' ∧ w'.cell? ⟨b2, off2 + k, none⟩ = some (.bool false) ∧ w'.cell? ⟨b, off + k * 3, none⟩ = some (.slice ra rs.length rc) ∧ w'.cell? ⟨b, off + k * 3 + 1, none⟩ = some (.slice ga gs.length gc) ∧ w'.cell? ⟨b, off + k * 3 + 2, none⟩ = some (.slice sa ss.length sc) ∧ w'.cell? ⟨b, off + n * 3, none⟩ = some (.slice ra' rs'.length rc') ∧ w'.cell? ⟨b, off + n * 3 + 1, none⟩ = some (.slice ga' gs'.length gc') ∧ w'.cell? ⟨b, off + n * 3 + 2, none⟩ = some (.slice sa' ss'.length sc')) ((refine KS.out _ ?_; go_split_ands; repeat (first | assumption | exact Below.refl _ _ | refine grow_drew ?_ | refine grow_alloc ?_ _ | refine grow_trans ?_ (by assumption))))
          (first
            | (go_at_call 32; refine (C19.out _ ?_).mono ?_; (go_split_ands; assumption); rintro e wa ⟨rfl, hba⟩))
        all_goals (
          go_split_ands
          have BA : Below wr.heap.size wr wa := by assumption
          have HBA : Hid (Below w.heap.size w wa) := grow_trans hB.out BA
          clear KS C19 hba BA hB
          cases c with
          | true =>
            have HR := HN HS.out
            clear HS HN
            have HR2 : Hid (readyX l done n = false) := HR
            clear HR
            go_wp2
            go_ret
            exact ⟨by rw [HR2.out]; rfl, HBA.out⟩
          | false =>
            have HT : Hid (freeTo l done n (k + 1) = true) := HS.out
            clear HS HN
            go_wp2
            go_roundw
            case rel => exact ⟨k + 1, by omega, by go_num, HT, HBA⟩
            case measure => simp [intOf]; omega)
    · have hkk : k = n := by omega
      obtain ⟨b2, off2, rfl, _, e3⟩ := HBo.out n (by rw [HD.out]; omega)
      have d6 : wr.cell? ⟨b2, off2 + n, none⟩ = some (.bool (dn done n)) := ext_cell hB.out e3
      have HR : Hid (readyX l done n = !dn done n) := by
        have h := hF.out
        rw [hkk] at h
        show _ = _
        rw [HRX.out, h]
        simp
      have i1 : (0 : Int) ≤ (n : Int) := by omega
      have i5 : (n : Int) < (done.length : Int) := by have := HD.out; omega
      clear hF e3 hkk
      generalize dn done n = dd at *
      have hkn : ¬ (k : Int) < (n : Int) := by omega
      go_wp2
      go_ret
      exact ⟨by rw [HR.out]; rfl, hB.out⟩

end Go.Proofs.YtikolifbljnokaaGreat
