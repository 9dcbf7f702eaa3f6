/-
  Can tells just the steps that the document tells, in its order, with its errors, whatever it is handed (StepsCan).
  Conditions: none beyond the form's own (the arguments can be read).
-/
import Derived.Test.YtebjkmknhpgemaaGreatHallH
import Derived.Test.YtebjkmknhpgemaaGreatMPlace
import Derived.Test.YtebjkmknhpgemaaGreatHallA
import Derived.Test.YtebjkmknhpgemaaGreatHallB
import Derived.WalkKit
import Derived.WalkSpells
import Derived.WalkLawsBesides
import Derived.Defers
import Derived.Recover
import Derived.ProofKit
import Derived.Deep.RegionHeld
import Derived.Deep.RegionHeld3
import Derived.Deep.RegionLaw
import Derived.Deep.DeepCutAuto
import Derived.Deep.QuietTactic
import Derived.BigQuiet
import Derived.Maps.AppendAt
import Derived.Lib.SliceRun
import Derived.Deep.AppendLies
import Derived.Test.YtebjkmknhpgemaaGreatMHall
import Derived.Test.YtebjkmknhpgemaaGreatStepsA
import Derived.Test.YtebjkmknhpgemaaGreatTxnB
import Derived.Test.YtebjkmknhpgemaaGreatHallG
import Derived.Test.YtebjkmknhpgemaaGreatMRun
import Derived.OpenShut
import Derived.ChangeOld
import Derived.Deep.Slices
import Derived.Deep.Strs
import Derived.Lib.SmallJoins
namespace Go.Proofs.YtebjkmknhpgemaaGreat
open Go.RowKit

variable (la : Option Addr) (lc : Nat) (l : List TxA) (sa ra wa va : Option Addr) (sc rc tc vc : Nat) (S : SA)

set_option maxRecDepth 100000 in
set_option maxHeartbeats 2000000 in
/-- The document's allRead. -/
theorem docAllRead_any (sh n : Nat) (w : World) (hl : IsTxs w la l) (hs : Sta w sa ra wa va S) (hp : pnE sh l n = 0) (hF : Form sh l S) (hn : n < l.length) (_h8 : l.length ≤ 8) (h0 : 0 < sh) (h4 : sh ≤ 4) :
    Calls Tryz.prog 55 #[.agg #[.int .i64 (sh : Int), .slice la l.length lc], .agg #[.slice sa S.st.length sc, .slice ra S.rd.length rc, .slice wa S.wr.length tc, .slice va S.vs.length vc], .int .i64 n] w fun e w' => e = .returned (.bool (allRd sh l S n)) ∧ Below w.heap.size w w' := by
  have hW : Hid (Below w.heap.size w ((w.alloc (.cells #[.int .i64 (sh : Int), .slice la l.length lc] 24)).alloc (.cells #[.slice sa S.st.length sc, .slice ra S.rd.length rc, .slice wa S.wr.length tc, .slice va S.vs.length vc] 29))) := grow_alloc (grow_alloc (Below.refl _ _) _) _
  have p0 : ((w.alloc (.cells #[.int .i64 (sh : Int), .slice la l.length lc] 24)).alloc (.cells #[.slice sa S.st.length sc, .slice ra S.rd.length rc, .slice wa S.wr.length tc, .slice va S.vs.length vc] 29)).cell? ⟨w.heap.size, 0, none⟩ = some (.int .i64 (sh : Int)) := ext_cell (grow_alloc (Below.refl _ _) _) (at_new w _ 24 _ 0 _ rfl rfl)
  have p1 : ((w.alloc (.cells #[.int .i64 (sh : Int), .slice la l.length lc] 24)).alloc (.cells #[.slice sa S.st.length sc, .slice ra S.rd.length rc, .slice wa S.wr.length tc, .slice va S.vs.length vc] 29)).cell? ⟨w.heap.size, 1, none⟩ = some (.slice la l.length lc) := ext_cell (grow_alloc (Below.refl _ _) _) (at_new w _ 24 _ 1 _ rfl rfl)
  have q1 : ((w.alloc (.cells #[.int .i64 (sh : Int), .slice la l.length lc] 24)).alloc (.cells #[.slice sa S.st.length sc, .slice ra S.rd.length rc, .slice wa S.wr.length tc, .slice va S.vs.length vc] 29)).cell? ⟨w.heap.size + 1, 1, none⟩ = some (.slice ra S.rd.length rc) := at_new _ _ 29 _ 1 _ (by simp) rfl
  have CP : Hid (Calls Tryz.prog 53 #[.agg #[.int .i64 sh, .slice la l.length lc], .int .i64 n] ((w.alloc (.cells #[.int .i64 (sh : Int), .slice la l.length lc] 24)).alloc (.cells #[.slice sa S.st.length sc, .slice ra S.rd.length rc, .slice wa S.wr.length tc, .slice va S.vs.length vc] 29)) fun e w' => ∃ a c, e = .returned (.slice a (marks sh (keysIn (locksAt l n))).length c) ∧ IsBools w' a (marks sh (keysIn (locksAt l n))) ∧ Below ((w.alloc (.cells #[.int .i64 (sh : Int), .slice la l.length lc] 24)).alloc (.cells #[.slice sa S.st.length sc, .slice ra S.rd.length rc, .slice wa S.wr.length tc, .slice va S.vs.length vc] 29)).heap.size ((w.alloc (.cells #[.int .i64 (sh : Int), .slice la l.length lc] 24)).alloc (.cells #[.slice sa S.st.length sc, .slice ra S.rd.length rc, .slice wa S.wr.length tc, .slice va S.vs.length vc] 29)) w') := partOf_any la lc l sh n _ (hl.below hW.out) hp
  have HS : Hid (Sta ((w.alloc (.cells #[.int .i64 (sh : Int), .slice la l.length lc] 24)).alloc (.cells #[.slice sa S.st.length sc, .slice ra S.rd.length rc, .slice wa S.wr.length tc, .slice va S.vs.length vc] 29)) sa ra wa va S) := hs.below hW.out
  have HM : Hid (∀ k, (marks sh (keysIn (locksAt l n))).getD k false = ptB sh (gX l n) k) := fun _ => rfl
  have HL : Hid ((marks sh (keysIn (locksAt l n))).length = sh) := marks_len _ _
  have HF : Hid (Form sh l S) := hF
  have HA : Hid (allRd sh l S n = (List.range sh).all (fun k => !ptB sh (gX l n) k || at2 S.rd n k)) := rfl
  clear hl hs hF hp
  generalize allRd sh l S n = R at *
  go_enter Tryz.func55, Tryz.ntmps55
  go_upto_region 1 with fail
  generalize ((w.alloc (.cells #[.int .i64 (sh : Int), .slice la l.length lc] 24)).alloc (.cells #[.slice sa S.st.length sc, .slice ra S.rd.length rc, .slice wa S.wr.length tc, .slice va S.vs.length vc] 29)) = W at *
  go_wp2_with fail
  refine CP.out.mono ?_
  rintro e w1 ⟨a, c, rfl, hbs, hb1⟩
  have B1 : Hid (Below w.heap.size w w1) := grow_trans hW.out hb1
  have HB : Hid (IsBools w1 a (marks sh (keysIn (locksAt l n)))) := hbs
  have x0 := ext_cell hb1 p0
  have y1 := ext_cell hb1 q1
  obtain ⟨b4, o4, b5, o5, c5, e4, _, _, z4, z5⟩ := (HS.out.below hb1).rd.rows HF.out.rd HF.out.rn h0 n hn
  have Z5 : Hid (∀ k, k < sh → w1.cell? ⟨b5, o5 + k, none⟩ = some (.bool (at2 S.rd n k))) := z5
  rw [e4, HF.out.rd] at y1
  clear CP hbs hb1 p0 p1 q1 z5 e4
  rw [HL.out]
  go_wp2
  go_loop [8] (fun i => ∃ k : Nat, k ≤ sh ∧ i = .int .i64 k ∧ Hid ((List.range k).all (fun k => !ptB sh (gX l n) k || at2 S.rd n k) = true)) (fun i => sh - (intOf i).toNat)
  case atStart => exact ⟨0, Nat.zero_le _, rfl, rfl⟩
  case round =>
    obtain ⟨k, hk, rfl, hall⟩ := hrel
    by_cases hlt : k < sh
    · obtain ⟨b1, o1, ea, _, d1⟩ := HB.out k (by rw [HL.out]; exact hlt)
      subst ea
      rw [HM.out k] at d1
      have d4 := Z5.out k hlt
      have hstep : Hid ((List.range (k + 1)).all (fun k => !ptB sh (gX l n) k || at2 S.rd n k) = (!ptB sh (gX l n) k || at2 S.rd n k)) := by
        show _ = _
        rw [all_to, hall.out, Bool.true_and]
      have hstop : Hid ((!ptB sh (gX l n) k || at2 S.rd n k) = false → R = false) := fun e => by rw [HA.out]; exact all_stop hlt e
      have i1 : (k : Int) < (sh : Int) := by omega
      generalize ptB sh (gX l n) k = P at *
      generalize at2 S.rd n k = Q at *
      clear hall
      cases P
      · go_wp2
        go_round
        case rel => exact ⟨k + 1, by omega, by go_num, by show _ = _; rw [hstep.out]; rfl⟩
        case measure => simp [intOf]; omega
      · cases Q
        · have HR : Hid (R = false) := hstop.out rfl
          clear hstop hstep
          go_wp2
          go_ret
          exact ⟨by rw [HR.out]; rfl, B1.out⟩
        · go_wp2
          go_round
          case rel => exact ⟨k + 1, by omega, by go_num, by show _ = _; rw [hstep.out]; rfl⟩
          case measure => simp [intOf]; omega
    · have hkk : k = sh := by omega
      subst hkk
      have HR : Hid (R = true) := by show _ = _; rw [HA.out]; exact hall.out
      have i1 : ¬ (k : Int) < (k : Int) := by omega
      go_wp2
      go_ret
      exact ⟨by rw [HR.out]; rfl, B1.out⟩

set_option maxRecDepth 100000 in
set_option maxHeartbeats 2000000 in
/-- The document's gone. -/
theorem docGone_any (sh n k : Nat) (w : World) (hl : IsTxs w la l) (hs : Sta w sa ra wa va S) (hp : pnE sh l n = 0) (hF : Form sh l S) (hn : n < l.length) (hk : k < sh) (h4 : sh ≤ 4) :
    Calls Tryz.prog 61 #[.agg #[.int .i64 (sh : Int), .slice la l.length lc], .agg #[.slice sa S.st.length sc, .slice ra S.rd.length rc, .slice wa S.wr.length tc, .slice va S.vs.length vc], .int .i64 n, .int .i64 k] w fun e w' => e = .returned (.bool (goneB sh l S n k)) ∧ Below w.heap.size w w' := by
  have h0 : 0 < sh := by omega
  have hW : Hid (Below w.heap.size w ((w.alloc (.cells #[.int .i64 (sh : Int), .slice la l.length lc] 24)).alloc (.cells #[.slice sa S.st.length sc, .slice ra S.rd.length rc, .slice wa S.wr.length tc, .slice va S.vs.length vc] 29))) := grow_alloc (grow_alloc (Below.refl _ _) _) _
  have p0 : ((w.alloc (.cells #[.int .i64 (sh : Int), .slice la l.length lc] 24)).alloc (.cells #[.slice sa S.st.length sc, .slice ra S.rd.length rc, .slice wa S.wr.length tc, .slice va S.vs.length vc] 29)).cell? ⟨w.heap.size, 0, none⟩ = some (.int .i64 (sh : Int)) := ext_cell (grow_alloc (Below.refl _ _) _) (at_new w _ 24 _ 0 _ rfl rfl)
  have p1 : ((w.alloc (.cells #[.int .i64 (sh : Int), .slice la l.length lc] 24)).alloc (.cells #[.slice sa S.st.length sc, .slice ra S.rd.length rc, .slice wa S.wr.length tc, .slice va S.vs.length vc] 29)).cell? ⟨w.heap.size, 1, none⟩ = some (.slice la l.length lc) := ext_cell (grow_alloc (Below.refl _ _) _) (at_new w _ 24 _ 1 _ rfl rfl)
  have q1 : ((w.alloc (.cells #[.int .i64 (sh : Int), .slice la l.length lc] 24)).alloc (.cells #[.slice sa S.st.length sc, .slice ra S.rd.length rc, .slice wa S.wr.length tc, .slice va S.vs.length vc] 29)).cell? ⟨w.heap.size + 1, 1, none⟩ = some (.slice ra S.rd.length rc) := at_new _ _ 29 _ 1 _ (by simp) rfl
  have q2 : ((w.alloc (.cells #[.int .i64 (sh : Int), .slice la l.length lc] 24)).alloc (.cells #[.slice sa S.st.length sc, .slice ra S.rd.length rc, .slice wa S.wr.length tc, .slice va S.vs.length vc] 29)).cell? ⟨w.heap.size + 1, 2, none⟩ = some (.slice wa S.wr.length tc) := at_new _ _ 29 _ 2 _ (by simp) rfl
  have CP : Hid (Calls Tryz.prog 53 #[.agg #[.int .i64 sh, .slice la l.length lc], .int .i64 n] ((w.alloc (.cells #[.int .i64 (sh : Int), .slice la l.length lc] 24)).alloc (.cells #[.slice sa S.st.length sc, .slice ra S.rd.length rc, .slice wa S.wr.length tc, .slice va S.vs.length vc] 29)) fun e w' => ∃ a c, e = .returned (.slice a (marks sh (keysIn (locksAt l n))).length c) ∧ IsBools w' a (marks sh (keysIn (locksAt l n))) ∧ Below ((w.alloc (.cells #[.int .i64 (sh : Int), .slice la l.length lc] 24)).alloc (.cells #[.slice sa S.st.length sc, .slice ra S.rd.length rc, .slice wa S.wr.length tc, .slice va S.vs.length vc] 29)).heap.size ((w.alloc (.cells #[.int .i64 (sh : Int), .slice la l.length lc] 24)).alloc (.cells #[.slice sa S.st.length sc, .slice ra S.rd.length rc, .slice wa S.wr.length tc, .slice va S.vs.length vc] 29)) w') := partOf_any la lc l sh n _ (hl.below hW.out) hp
  have CA : Hid (∀ w1, Below ((w.alloc (.cells #[.int .i64 (sh : Int), .slice la l.length lc] 24)).alloc (.cells #[.slice sa S.st.length sc, .slice ra S.rd.length rc, .slice wa S.wr.length tc, .slice va S.vs.length vc] 29)).heap.size ((w.alloc (.cells #[.int .i64 (sh : Int), .slice la l.length lc] 24)).alloc (.cells #[.slice sa S.st.length sc, .slice ra S.rd.length rc, .slice wa S.wr.length tc, .slice va S.vs.length vc] 29)) w1 → Calls Tryz.prog 54 #[.agg #[.int .i64 sh, .slice la l.length lc], .int .i64 n] w1 fun e w' => ∃ a c, e = .returned (.slice a (marks sh (setsIn (locksAt l n))).length c) ∧ IsBools w' a (marks sh (setsIn (locksAt l n))) ∧ Below w1.heap.size w1 w') := fun w1 hb => activeOf_any la lc l sh n _ ((hl.below hW.out).below hb) hp
  have HS : Hid (Sta ((w.alloc (.cells #[.int .i64 (sh : Int), .slice la l.length lc] 24)).alloc (.cells #[.slice sa S.st.length sc, .slice ra S.rd.length rc, .slice wa S.wr.length tc, .slice va S.vs.length vc] 29)) sa ra wa va S) := hs.below hW.out
  have HM : Hid ((marks sh (keysIn (locksAt l n))).getD k false = ptB sh (gX l n) k) := rfl
  have HM2 : Hid ((marks sh (setsIn (locksAt l n))).getD k false = acB sh (gX l n) k) := rfl
  have HL : Hid ((marks sh (keysIn (locksAt l n))).length = sh) := marks_len _ _
  have HL2 : Hid ((marks sh (setsIn (locksAt l n))).length = sh) := marks_len _ _
  have HF : Hid (Form sh l S) := hF
  have HR : Hid (goneB sh l S n k = if ptB sh (gX l n) k = true then (if acB sh (gX l n) k = true then at2 S.wr n k else at2 S.rd n k) else true) := by
    show _ = _
    unfold goneB
    cases ptB sh (gX l n) k <;> cases acB sh (gX l n) k <;> rfl
  clear hl hs hF hp
  generalize goneB sh l S n k = R at *
  go_enter Tryz.func61, Tryz.ntmps61
  go_upto_region 1 with fail
  generalize ((w.alloc (.cells #[.int .i64 (sh : Int), .slice la l.length lc] 24)).alloc (.cells #[.slice sa S.st.length sc, .slice ra S.rd.length rc, .slice wa S.wr.length tc, .slice va S.vs.length vc] 29)) = W at *
  go_wp2_with fail
  refine CP.out.mono ?_
  rintro e w1 ⟨a, c, rfl, hbs, hb1⟩
  have B1 : Hid (Below W.heap.size W w1) := hb1
  obtain ⟨b1, o1, ea, _, d1⟩ := hbs k (by rw [HL.out]; exact hk)
  subst ea
  rw [HM.out] at d1
  rw [HL.out]
  have x0 := ext_cell hb1 p0
  have x1 := ext_cell hb1 p1
  clear CP hbs hb1
  generalize ptB sh (gX l n) k = P at *
  cases P
  · have HR' : Hid (R = true) := by show _ = _; rw [HR.out]; rfl
    have BF : Hid (Below w.heap.size w w1) := grow_trans hW.out B1.out
    clear HR
    go_wp2
    go_ret
    exact ⟨by rw [HR'.out]; rfl, BF.out⟩
  · go_wp2_with fail
    refine (CA.out _ B1.out).mono ?_
    rintro e w2 ⟨a, c, rfl, hbs, hb2⟩
    have B2 : Hid (Below W.heap.size W w2) := grow_trans B1.out hb2
    obtain ⟨b3, o3, ea, _, d3⟩ := hbs k (by rw [HL2.out]; exact hk)
    subst ea
    rw [HM2.out] at d3
    rw [HL2.out]
    have y1 := ext_cell B2.out q1
    have y2 := ext_cell B2.out q2
    obtain ⟨b4, o4, b5, o5, c5, e4, _, _, z4, z5⟩ := (HS.out.below B2.out).rd.rows HF.out.rd HF.out.rn h0 n hn
    obtain ⟨b6, o6, b7, o7, c7, e6, _, _, z6, z7⟩ := (HS.out.below B2.out).wr.rows HF.out.wr HF.out.wn h0 n hn
    have z5 := z5 k hk
    have z7 := z7 k hk
    rw [e4, HF.out.rd] at y1
    rw [e6, HF.out.wr] at y2
    have BF : Hid (Below w.heap.size w w2) := grow_trans hW.out B2.out
    clear CA hbs hb2 e4 e6 d1 x0 x1
    generalize acB sh (gX l n) k = Q at *
    cases Q
    · have HR' : Hid (R = at2 S.rd n k) := by show _ = _; rw [HR.out]; rfl
      clear HR
      go_wp2
      go_ret
      exact ⟨by rw [HR'.out]; rfl, BF.out⟩
    · have HR' : Hid (R = at2 S.wr n k) := by show _ = _; rw [HR.out]; rfl
      clear HR
      go_wp2
      go_ret
      exact ⟨by rw [HR'.out]; rfl, BF.out⟩
end Go.Proofs.YtebjkmknhpgemaaGreat

namespace Go.Proofs.YtebjkmknhpgemaaGreat
open Go.RowKit

theorem Hid.of {p : Prop} (h : p) : Hid p := h
theorem pnE_in {sh : Nat} {l : List TxA} (hp : planE (sh : Int) l = 0) {n : Nat} (hn : n < l.length) : pnE sh l n = 0 := by
  have e : noneE (n : Int) l.length = 0 := by
    unfold noneE
    rw [if_neg (by omega)]
  unfold pnE
  rw [hp, e]; rfl
variable (la : Option Addr) (lc : Nat) (l : List TxA) (sa ra wa va : Option Addr) (sc rc tc vc : Nat) (S : SA)

set_option maxRecDepth 100000 in
set_option maxHeartbeats 2000000 in
/-- The document's OverOf. -/
theorem docOver_any (sh : Nat) (w : World) (hl : IsTxs w la l) (hs : Sta w sa ra wa va S) (hp : planE (sh : Int) l = 0) (hF : Form sh l S) :
    Calls Tryz.prog 23 #[.agg #[.int .i64 (sh : Int), .slice la l.length lc], .agg #[.slice sa S.st.length sc, .slice ra S.rd.length rc, .slice wa S.wr.length tc, .slice va S.vs.length vc]] w fun e w' => e = .returned (.bool (overB sh l S)) ∧ Below w.heap.size w w' := by
  have hz := planE_zero hp
  have hl8 := chkL_len hz.2.2
  have h4 : sh ≤ 4 := by omega
  have hW : Hid (Below w.heap.size w ((w.alloc (.cells #[.int .i64 (sh : Int), .slice la l.length lc] 24)).alloc (.cells #[.slice sa S.st.length sc, .slice ra S.rd.length rc, .slice wa S.wr.length tc, .slice va S.vs.length vc] 29))) := grow_alloc (grow_alloc (Below.refl _ _) _) _
  have p0 : ((w.alloc (.cells #[.int .i64 (sh : Int), .slice la l.length lc] 24)).alloc (.cells #[.slice sa S.st.length sc, .slice ra S.rd.length rc, .slice wa S.wr.length tc, .slice va S.vs.length vc] 29)).cell? ⟨w.heap.size, 0, none⟩ = some (.int .i64 (sh : Int)) := ext_cell (grow_alloc (Below.refl _ _) _) (at_new w _ 24 _ 0 _ rfl rfl)
  have p1 : ((w.alloc (.cells #[.int .i64 (sh : Int), .slice la l.length lc] 24)).alloc (.cells #[.slice sa S.st.length sc, .slice ra S.rd.length rc, .slice wa S.wr.length tc, .slice va S.vs.length vc] 29)).cell? ⟨w.heap.size, 1, none⟩ = some (.slice la l.length lc) := ext_cell (grow_alloc (Below.refl _ _) _) (at_new w _ 24 _ 1 _ rfl rfl)
  have q0 : ((w.alloc (.cells #[.int .i64 (sh : Int), .slice la l.length lc] 24)).alloc (.cells #[.slice sa S.st.length sc, .slice ra S.rd.length rc, .slice wa S.wr.length tc, .slice va S.vs.length vc] 29)).cell? ⟨w.heap.size + 1, 0, none⟩ = some (.slice sa S.st.length sc) := at_new _ _ 29 _ 0 _ (by simp) rfl
  have q1 : ((w.alloc (.cells #[.int .i64 (sh : Int), .slice la l.length lc] 24)).alloc (.cells #[.slice sa S.st.length sc, .slice ra S.rd.length rc, .slice wa S.wr.length tc, .slice va S.vs.length vc] 29)).cell? ⟨w.heap.size + 1, 1, none⟩ = some (.slice ra S.rd.length rc) := at_new _ _ 29 _ 1 _ (by simp) rfl
  have q2 : ((w.alloc (.cells #[.int .i64 (sh : Int), .slice la l.length lc] 24)).alloc (.cells #[.slice sa S.st.length sc, .slice ra S.rd.length rc, .slice wa S.wr.length tc, .slice va S.vs.length vc] 29)).cell? ⟨w.heap.size + 1, 2, none⟩ = some (.slice wa S.wr.length tc) := at_new _ _ 29 _ 2 _ (by simp) rfl
  have q3 : ((w.alloc (.cells #[.int .i64 (sh : Int), .slice la l.length lc] 24)).alloc (.cells #[.slice sa S.st.length sc, .slice ra S.rd.length rc, .slice wa S.wr.length tc, .slice va S.vs.length vc] 29)).cell? ⟨w.heap.size + 1, 3, none⟩ = some (.slice va S.vs.length vc) := at_new _ _ 29 _ 3 _ (by simp) rfl
  have KEEP : Hid (∀ w', Below ((w.alloc (.cells #[.int .i64 (sh : Int), .slice la l.length lc] 24)).alloc (.cells #[.slice sa S.st.length sc, .slice ra S.rd.length rc, .slice wa S.wr.length tc, .slice va S.vs.length vc] 29)).heap.size ((w.alloc (.cells #[.int .i64 (sh : Int), .slice la l.length lc] 24)).alloc (.cells #[.slice sa S.st.length sc, .slice ra S.rd.length rc, .slice wa S.wr.length tc, .slice va S.vs.length vc] 29)) w' → w'.cell? ⟨w.heap.size, 0, none⟩ = some (.int .i64 (sh : Int)) ∧ w'.cell? ⟨w.heap.size, 1, none⟩ = some (.slice la l.length lc) ∧ w'.cell? ⟨w.heap.size + 1, 0, none⟩ = some (.slice sa S.st.length sc) ∧ w'.cell? ⟨w.heap.size + 1, 1, none⟩ = some (.slice ra S.rd.length rc) ∧ w'.cell? ⟨w.heap.size + 1, 2, none⟩ = some (.slice wa S.wr.length tc) ∧ w'.cell? ⟨w.heap.size + 1, 3, none⟩ = some (.slice va S.vs.length vc)) := fun w' hb => ⟨ext_cell hb p0, ext_cell hb p1, ext_cell hb q0, ext_cell hb q1, ext_cell hb q2, ext_cell hb q3⟩
  have CG : Hid (∀ w' n k, Below ((w.alloc (.cells #[.int .i64 (sh : Int), .slice la l.length lc] 24)).alloc (.cells #[.slice sa S.st.length sc, .slice ra S.rd.length rc, .slice wa S.wr.length tc, .slice va S.vs.length vc] 29)).heap.size ((w.alloc (.cells #[.int .i64 (sh : Int), .slice la l.length lc] 24)).alloc (.cells #[.slice sa S.st.length sc, .slice ra S.rd.length rc, .slice wa S.wr.length tc, .slice va S.vs.length vc] 29)) w' → n < l.length → k < sh → Calls Tryz.prog 61 #[.agg #[.int .i64 (sh : Int), .slice la l.length lc], .agg #[.slice sa S.st.length sc, .slice ra S.rd.length rc, .slice wa S.wr.length tc, .slice va S.vs.length vc], .int .i64 (n : Int), .int .i64 (k : Int)] w' fun e w'' => e = .returned (.bool (goneB sh l S n k)) ∧ Below w'.heap.size w' w'') := fun w' n k hb hn hk => docGone_any la lc l sa ra wa va sc rc tc vc S sh n k w' ((hl.below hW.out).below hb) ((hs.below hW.out).below hb) (pnE_in hp hn) hF hn hk h4
  have HF : Hid (overB sh l S = overTo sh l S l.length) := rfl
  have HS : Hid (∀ n, overTo sh l S (n + 1) = (overTo sh l S n && (List.range sh).all (goneB sh l S n))) := overTo_step sh l S
  have HB : Hid (∀ n k, n < l.length → k < sh → goneB sh l S n k = false → overB sh l S = false) := fun n k hn hk e => all_stop hn (all_stop hk e)
  have H0 : Hid (overTo sh l S 0 = true) := rfl
  clear hl hs hp hF hz p0 p1 q0 q1 q2 q3
  generalize overB sh l S = R at *
  generalize hot : overTo sh l S = ot at *
  clear hot
  go_enter Tryz.func23, Tryz.ntmps23
  go_upto_region 1 with fail
  generalize ((w.alloc (.cells #[.int .i64 (sh : Int), .slice la l.length lc] 24)).alloc (.cells #[.slice sa S.st.length sc, .slice ra S.rd.length rc, .slice wa S.wr.length tc, .slice va S.vs.length vc] 29)) = W at *
  go_wp2
  go_loopw [5, 6] (fun i _ wr => ∃ n : Nat, n ≤ l.length ∧ i = .int .i64 n ∧ Hid (ot n = true) ∧ Hid (Below W.heap.size W wr)) (fun i _ _ => l.length - (intOf i).toNat)
  case atStart => exact ⟨0, Nat.zero_le _, rfl, H0, Below.refl _ _⟩
  case round =>
    obtain ⟨n, hn, rfl, hall, hB⟩ := hrel
    obtain ⟨p0, p1, q0, q1, q2, q3⟩ := KEEP.out wr hB.out
    by_cases hlt : n < l.length
    · have i1 : (n : Int) < (l.length : Int) := by omega
      have HN : Hid ((List.range sh).all (goneB sh l S n) = true → ot (n + 1) = true) := fun e => by rw [HS.out, hall.out, e]; rfl
      clear hall
      go_wp2
      clear p0 p1 q0 q1 q2 q3
      go_loopw [6] (fun j wq => ∃ k : Nat, k ≤ sh ∧ j = .int .i64 k ∧ Hid ((List.range k).all (goneB sh l S n) = true) ∧ Hid (Below W.heap.size W wq)) (fun j _ => sh - (intOf j).toNat)
      case atStart => exact ⟨0, Nat.zero_le _, rfl, rfl, hB⟩
      case round =>
        clear hB
        obtain ⟨k, hk, rfl, hal, hB⟩ := hrel
        obtain ⟨p0, p1, q0, q1, q2, q3⟩ := KEEP.out _ hB.out
        by_cases hlt2 : k < sh
        · have j1 : (k : Int) < (sh : Int) := by omega
          have HT : Hid ((List.range (k + 1)).all (goneB sh l S n) = goneB sh l S n k) := by show _ = _; rw [all_to, hal.out, Bool.true_and]
          have HBk : Hid (goneB sh l S n k = false → R = false) := HB.out n k hlt hlt2
          have CGh := Hid.of (CG.out _ n k hB.out hlt hlt2)
          clear hal
          generalize hg : goneB sh l S n k = G at HT HBk CGh
          clear hg
          cases G
          · have HR : Hid (R = false) := HBk.out rfl
            clear HT HBk
            go_wp2_with fail
            refine CGh.out.mono ?_
            rintro e w2 ⟨rfl, hw2⟩
            have BF : Hid (Below w.heap.size w w2) := grow_trans hW.out (grow_trans hB.out hw2)
            clear CGh hw2 p0 p1 q0 q1 q2 q3
            go_wp2
            go_ret
            exact ⟨by rw [HR.out]; rfl, BF.out⟩
          · clear HBk
            go_wp2_with fail
            refine CGh.out.mono ?_
            rintro e w2 ⟨rfl, hw2⟩
            have BF : Hid (Below W.heap.size W w2) := grow_trans hB.out hw2
            clear CGh hw2 p0 p1 q0 q1 q2 q3
            go_wp2
            go_roundw
            case rel => exact ⟨k + 1, by omega, by go_num, HT.out, BF⟩
            case measure => simp [intOf]; omega
        · have hkk : k = sh := by omega
          have j1 : ¬ (k : Int) < (sh : Int) := by omega
          have HT : Hid (ot (n + 1) = true) := HN.out (by have := hal.out; rw [hkk] at this; exact this)
          clear hal HN
          go_wp2
          go_roundw
          case rel => exact ⟨n + 1, by omega, by go_num, HT, hB⟩
          case measure => simp [intOf]; omega
    · have hnn : n = l.length := by omega
      have i1 : ¬ (n : Int) < (l.length : Int) := by omega
      have HR : Hid (R = true) := by have := hall.out; rw [hnn] at this; exact HF.out.trans this
      have BF : Hid (Below w.heap.size w wr) := grow_trans hW.out hB.out
      clear hall
      go_wp2
      go_ret
      exact ⟨by rw [HR.out]; rfl, BF.out⟩
end Go.Proofs.YtebjkmknhpgemaaGreat

namespace Go.Proofs.YtebjkmknhpgemaaGreat
open Go.RowKit

variable (x y : TxA)

def clTo (sh : Nat) (x y : TxA) (kk n : Nat) : Bool := (List.range n).any fun c => c % sh == kk && clashAt x y c
theorem clTo_step (sh : Nat) (x y : TxA) (kk n : Nat) : clTo sh x y kk (n + 1) = (clTo sh x y kk n || (n % sh == kk && clashAt x y n)) := by
  unfold clTo
  rw [List.range_succ, List.any_append]
  simp
theorem rd_is (x : TxA) (k : Nat) (b : Bool) (h : rdX x k = b) : decide ((k : Int) ∈ x.rs) = b := h
theorem wr_is (x : TxA) (k : Nat) (b : Bool) (h : wrX x k = b) : decide ((k : Int) ∈ keysOf x.ss) = b := h

set_option maxRecDepth 100000 in
set_option maxHeartbeats 4000000 in
theorem docClash_sh (sh kk : Nat) (h0 : 0 < sh) (hs4 : sh ≤ 4) (w : World) (hx : IsX w x) (hy : IsX w y) :
    Calls Tryz.prog 107 #[.agg #[.slice x.ra x.rs.length x.rc, .slice x.ga x.gs.length x.gc, .slice x.sa x.ss.length x.sc], .agg #[.slice y.ra y.rs.length y.rc, .slice y.ga y.gs.length y.gc, .slice y.sa y.ss.length y.sc], .int .i64 sh, .int .i64 kk] w fun e w' => e = .returned (.bool (clK sh x y kk)) ∧ Below w.heap.size w w' := by
  have HS : Hid (∀ k, clTo sh x y kk (k + 1) = (clTo sh x y kk k || (k % sh == kk && clashAt x y k))) := clTo_step sh x y kk
  have HA : Hid (∀ k, clashAt x y k = ((wrX x k && (rdX y k || wrX y k)) || (wrX y k && rdX x k))) := fun k => rfl
  have HF : Hid (clK sh x y kk = clTo sh x y kk 8) := rfl
  have HD : Hid (∀ k, clTo sh x y kk k = true → k ≤ 8 → clK sh x y kk = true) := fun k h hk => by
    unfold clK clTo at *
    rw [List.any_eq_true] at *
    obtain ⟨j, hj, hc⟩ := h
    exact ⟨j, List.mem_range.2 (by have := List.mem_range.1 hj; omega), hc⟩
  have R1 : Hid (∀ k b, rdX x k = b → decide ((k : Int) ∈ x.rs) = b) := rd_is x
  have W1 : Hid (∀ k b, wrX x k = b → decide ((k : Int) ∈ keysOf x.ss) = b) := wr_is x
  have R2 : Hid (∀ k b, rdX y k = b → decide ((k : Int) ∈ y.rs) = b) := rd_is y
  have W2 : Hid (∀ k b, wrX y k = b → decide ((k : Int) ∈ keysOf y.ss) = b) := wr_is y
  have H0 : Hid (clTo sh x y kk 0 = false) := rfl
  generalize clK sh x y kk = CX at *
  generalize hct : clTo sh x y kk = ct at *
  generalize hca : clashAt x y = ca at *
  clear hct hca
  generalize rdX x = rx at *
  generalize wrX x = wx at *
  generalize rdX y = ry at *
  generalize wrX y = wy at *
  obtain ⟨ra, ga, sa, rc, gc, sc, rs, gs, ss⟩ := x
  obtain ⟨ra', ga', sa', rc', gc', sc', rs', gs', ss'⟩ := y
  simp only at R1 W1 R2 W2
  have HX : Hid (IsTx w ra ga sa rs gs ss) := hx.t
  have HY : Hid (IsTx w ra' ga' sa' rs' gs' ss') := hy.t
  clear hx hy
  have g1 : Below w.heap.size w ((w.alloc (.cells #[.slice ra rs.length rc, .slice ga gs.length gc, .slice sa ss.length sc] 79)).alloc (.cells #[.slice ra' rs'.length rc', .slice ga' gs'.length gc', .slice sa' ss'.length sc'] 79)) := grow_alloc (grow_alloc (Below.refl _ _) _) _
  have p0 : ((w.alloc (.cells #[.slice ra rs.length rc, .slice ga gs.length gc, .slice sa ss.length sc] 79)).alloc (.cells #[.slice ra' rs'.length rc', .slice ga' gs'.length gc', .slice sa' ss'.length sc'] 79)).cell? ⟨w.heap.size, 0, none⟩ = some (.slice ra rs.length rc) := by rw [World.cell?_alloc_lt _ _ _ (by simp)]; simp
  have p1 : ((w.alloc (.cells #[.slice ra rs.length rc, .slice ga gs.length gc, .slice sa ss.length sc] 79)).alloc (.cells #[.slice ra' rs'.length rc', .slice ga' gs'.length gc', .slice sa' ss'.length sc'] 79)).cell? ⟨w.heap.size, 1, none⟩ = some (.slice ga gs.length gc) := by rw [World.cell?_alloc_lt _ _ _ (by simp)]; simp
  have p2 : ((w.alloc (.cells #[.slice ra rs.length rc, .slice ga gs.length gc, .slice sa ss.length sc] 79)).alloc (.cells #[.slice ra' rs'.length rc', .slice ga' gs'.length gc', .slice sa' ss'.length sc'] 79)).cell? ⟨w.heap.size, 2, none⟩ = some (.slice sa ss.length sc) := by rw [World.cell?_alloc_lt _ _ _ (by simp)]; simp
  have q0 : ((w.alloc (.cells #[.slice ra rs.length rc, .slice ga gs.length gc, .slice sa ss.length sc] 79)).alloc (.cells #[.slice ra' rs'.length rc', .slice ga' gs'.length gc', .slice sa' ss'.length sc'] 79)).cell? ⟨w.heap.size + 1, 0, none⟩ = some (.slice ra' rs'.length rc') := by simp
  have q1 : ((w.alloc (.cells #[.slice ra rs.length rc, .slice ga gs.length gc, .slice sa ss.length sc] 79)).alloc (.cells #[.slice ra' rs'.length rc', .slice ga' gs'.length gc', .slice sa' ss'.length sc'] 79)).cell? ⟨w.heap.size + 1, 1, none⟩ = some (.slice ga' gs'.length gc') := by simp
  have q2 : ((w.alloc (.cells #[.slice ra rs.length rc, .slice ga gs.length gc, .slice sa ss.length sc] 79)).alloc (.cells #[.slice ra' rs'.length rc', .slice ga' gs'.length gc', .slice sa' ss'.length sc'] 79)).cell? ⟨w.heap.size + 1, 2, none⟩ = some (.slice sa' ss'.length sc') := by simp
  go_enter Tryz.func107, Tryz.ntmps107
  go_wp2
  have G1 : Hid (Below w.heap.size w ((w.alloc (.cells #[.slice ra rs.length rc, .slice ga gs.length gc, .slice sa ss.length sc] 79)).alloc (.cells #[.slice ra' rs'.length rc', .slice ga' gs'.length gc', .slice sa' ss'.length sc'] 79))) := g1
  clear g1
  generalize (w.alloc (.cells #[.slice ra rs.length rc, .slice ga gs.length gc, .slice sa ss.length sc] 79)).alloc (.cells #[.slice ra' rs'.length rc', .slice ga' gs'.length gc', .slice sa' ss'.length sc'] 79) = V at *
  go_loopw [9] (fun i wr => ∃ k : Nat, k ≤ 8 ∧ i = .int .i64 k ∧ Hid (ct k = false) ∧ Hid (Below V.heap.size V wr)) (fun i _ => 8 - (intOf i).toNat)
  case atStart => exact ⟨0, Nat.zero_le _, rfl, H0, Below.refl _ _⟩
  case round =>
    obtain ⟨k, hk, rfl, hC, hB⟩ := hrel
    by_cases hlt : k < 8
    · have p0 := ext_cell hB.out p0
      have p1 := ext_cell hB.out p1
      have p2 := ext_cell hB.out p2
      have q0 := ext_cell hB.out q0
      have q1 := ext_cell hB.out q1
      have q2 := ext_cell hB.out q2
      by_cases hat : k % sh = kk
      rotate_left
      · have HR : Hid (ct (k + 1) = false) := by
          show _ = _
          rw [HS.out, hC.out]
          have e : (k % sh == kk) = false := by simpa using hat
          rw [e]
          rfl
        have hm : ((k : Int) % (sh : Int) != (kk : Int)) = true := by
          rw [bne_iff_ne]
          intro e
          exact hat (by omega)
        clear p0 p1 p2 q0 q1 q2 HS HA HF hC HD R1 R2 W1 W2 hat
        go_wp2
        go_roundw
        case rel => exact ⟨k + 1, by omega, by go_num, HR, hB⟩
        case measure => simp [intOf]; omega
      have HT : Hid (ct (k + 1) = ca k) := by
        show _ = _
        rw [HS.out, hC.out]
        have e : (k % sh == kk) = true := by simpa using hat
        rw [e]
        rfl
      have HAk := HA.out k
      have hm : ((k : Int) % (sh : Int) != (kk : Int)) = false := by
        rw [bne_eq_false_iff_eq]
        omega
      clear hat
      have BW : Hid (Below w.heap.size w wr) := grow_trans G1.out hB.out
      have HXr : Hid (IsTx wr ra ga sa rs gs ss) := HX.out.below BW.out
      have HYr : Hid (IsTx wr ra' ga' sa' rs' gs' ss') := HY.out.below BW.out
      clear HS HA HF hC BW
      cases hwx : wx k with
      | true =>
        go_wp2_with fail
        refine (writes_any ra ga sa rc gc sc rs gs ss k _ HXr.out).mono ?_
        rintro e V1 ⟨rfl, hw1⟩
        rw [W1.out k _ hwx]
        have b1 : Below wr.heap.size wr V1 := by rw [hw1]; exact grow_alloc (Below.refl _ _) _
        clear hw1
        have p0 := ext_cell b1 p0
        have p1 := ext_cell b1 p1
        have p2 := ext_cell b1 p2
        have q0 := ext_cell b1 q0
        have q1 := ext_cell b1 q1
        have q2 := ext_cell b1 q2
        have HXr : Hid (IsTx V1 ra ga sa rs gs ss) := HXr.out.below b1
        have HYr : Hid (IsTx V1 ra' ga' sa' rs' gs' ss') := HYr.out.below b1
        have hB : Hid (Below V.heap.size V V1) := grow_trans hB.out b1
        clear b1
        cases hry : ry k with
        | true =>
          go_wp2_with fail
          refine (reads_any ra' ga' sa' rc' gc' sc' rs' gs' ss' k _ HYr.out).mono ?_
          rintro e V2 ⟨rfl, hw2⟩
          rw [R2.out k _ hry]
          have b2 : Below V1.heap.size V1 V2 := by rw [hw2]; exact grow_alloc (Below.refl _ _) _
          clear hw2
          have p0 := ext_cell b2 p0
          have p1 := ext_cell b2 p1
          have p2 := ext_cell b2 p2
          have q0 := ext_cell b2 q0
          have q1 := ext_cell b2 q1
          have q2 := ext_cell b2 q2
          have HXr : Hid (IsTx V2 ra ga sa rs gs ss) := HXr.out.below b2
          have HYr : Hid (IsTx V2 ra' ga' sa' rs' gs' ss') := HYr.out.below b2
          have hB : Hid (Below V.heap.size V V2) := grow_trans hB.out b2
          clear b2
          have HR : Hid (CX = true) := HD.out (k + 1) (by rw [HT.out, HAk]; simp [hwx, hry]) (by omega)
          have RB : Hid (Below w.heap.size w V2) := grow_trans G1.out hB.out
          clear p0 p1 p2 q0 q1 q2 HAk HT HXr HYr
          go_wp2
          go_ret
          exact ⟨by rw [HR.out]; rfl, RB.out⟩
        | false =>
          go_wp2_with fail
          refine (reads_any ra' ga' sa' rc' gc' sc' rs' gs' ss' k _ HYr.out).mono ?_
          rintro e V3 ⟨rfl, hw3⟩
          rw [R2.out k _ hry]
          have b3 : Below V1.heap.size V1 V3 := by rw [hw3]; exact grow_alloc (Below.refl _ _) _
          clear hw3
          have p0 := ext_cell b3 p0
          have p1 := ext_cell b3 p1
          have p2 := ext_cell b3 p2
          have q0 := ext_cell b3 q0
          have q1 := ext_cell b3 q1
          have q2 := ext_cell b3 q2
          have HXr : Hid (IsTx V3 ra ga sa rs gs ss) := HXr.out.below b3
          have HYr : Hid (IsTx V3 ra' ga' sa' rs' gs' ss') := HYr.out.below b3
          have hB : Hid (Below V.heap.size V V3) := grow_trans hB.out b3
          clear b3
          cases hwy : wy k with
          | true =>
            go_wp2_with fail
            refine (writes_any ra' ga' sa' rc' gc' sc' rs' gs' ss' k _ HYr.out).mono ?_
            rintro e V4 ⟨rfl, hw4⟩
            rw [W2.out k _ hwy]
            have b4 : Below V3.heap.size V3 V4 := by rw [hw4]; exact grow_alloc (Below.refl _ _) _
            clear hw4
            have p0 := ext_cell b4 p0
            have p1 := ext_cell b4 p1
            have p2 := ext_cell b4 p2
            have q0 := ext_cell b4 q0
            have q1 := ext_cell b4 q1
            have q2 := ext_cell b4 q2
            have HXr : Hid (IsTx V4 ra ga sa rs gs ss) := HXr.out.below b4
            have HYr : Hid (IsTx V4 ra' ga' sa' rs' gs' ss') := HYr.out.below b4
            have hB : Hid (Below V.heap.size V V4) := grow_trans hB.out b4
            clear b4
            have HR : Hid (CX = true) := HD.out (k + 1) (by rw [HT.out, HAk]; simp [hwx, hry, hwy]) (by omega)
            have RB : Hid (Below w.heap.size w V4) := grow_trans G1.out hB.out
            clear p0 p1 p2 q0 q1 q2 HAk HT HXr HYr
            go_wp2
            go_ret
            exact ⟨by rw [HR.out]; rfl, RB.out⟩
          | false =>
            go_wp2_with fail
            refine (writes_any ra' ga' sa' rc' gc' sc' rs' gs' ss' k _ HYr.out).mono ?_
            rintro e V5 ⟨rfl, hw5⟩
            rw [W2.out k _ hwy]
            have b5 : Below V3.heap.size V3 V5 := by rw [hw5]; exact grow_alloc (Below.refl _ _) _
            clear hw5
            have p0 := ext_cell b5 p0
            have p1 := ext_cell b5 p1
            have p2 := ext_cell b5 p2
            have q0 := ext_cell b5 q0
            have q1 := ext_cell b5 q1
            have q2 := ext_cell b5 q2
            have HXr : Hid (IsTx V5 ra ga sa rs gs ss) := HXr.out.below b5
            have HYr : Hid (IsTx V5 ra' ga' sa' rs' gs' ss') := HYr.out.below b5
            have hB : Hid (Below V.heap.size V V5) := grow_trans hB.out b5
            clear b5
            go_wp2_with fail
            refine (writes_any ra' ga' sa' rc' gc' sc' rs' gs' ss' k _ HYr.out).mono ?_
            rintro e V6 ⟨rfl, hw6⟩
            rw [W2.out k _ hwy]
            have b6 : Below V5.heap.size V5 V6 := by rw [hw6]; exact grow_alloc (Below.refl _ _) _
            clear hw6
            have p0 := ext_cell b6 p0
            have p1 := ext_cell b6 p1
            have p2 := ext_cell b6 p2
            have q0 := ext_cell b6 q0
            have q1 := ext_cell b6 q1
            have q2 := ext_cell b6 q2
            have HXr : Hid (IsTx V6 ra ga sa rs gs ss) := HXr.out.below b6
            have HYr : Hid (IsTx V6 ra' ga' sa' rs' gs' ss') := HYr.out.below b6
            have hB : Hid (Below V.heap.size V V6) := grow_trans hB.out b6
            clear b6
            have HR : Hid (ct (k + 1) = false) := by show _ = _; rw [HT.out, HAk]; simp [hwx, hry, hwy]
            clear p0 p1 p2 q0 q1 q2 HAk HT HXr HYr
            go_wp2
            go_roundw
            case rel => exact ⟨k + 1, by omega, by go_num, HR, hB⟩
            case measure => simp [intOf]; omega
      | false =>
        go_wp2_with fail
        refine (writes_any ra ga sa rc gc sc rs gs ss k _ HXr.out).mono ?_
        rintro e V7 ⟨rfl, hw7⟩
        rw [W1.out k _ hwx]
        have b7 : Below wr.heap.size wr V7 := by rw [hw7]; exact grow_alloc (Below.refl _ _) _
        clear hw7
        have p0 := ext_cell b7 p0
        have p1 := ext_cell b7 p1
        have p2 := ext_cell b7 p2
        have q0 := ext_cell b7 q0
        have q1 := ext_cell b7 q1
        have q2 := ext_cell b7 q2
        have HXr : Hid (IsTx V7 ra ga sa rs gs ss) := HXr.out.below b7
        have HYr : Hid (IsTx V7 ra' ga' sa' rs' gs' ss') := HYr.out.below b7
        have hB : Hid (Below V.heap.size V V7) := grow_trans hB.out b7
        clear b7
        cases hwy : wy k with
        | true =>
          go_wp2_with fail
          refine (writes_any ra' ga' sa' rc' gc' sc' rs' gs' ss' k _ HYr.out).mono ?_
          rintro e V8 ⟨rfl, hw8⟩
          rw [W2.out k _ hwy]
          have b8 : Below V7.heap.size V7 V8 := by rw [hw8]; exact grow_alloc (Below.refl _ _) _
          clear hw8
          have p0 := ext_cell b8 p0
          have p1 := ext_cell b8 p1
          have p2 := ext_cell b8 p2
          have q0 := ext_cell b8 q0
          have q1 := ext_cell b8 q1
          have q2 := ext_cell b8 q2
          have HXr : Hid (IsTx V8 ra ga sa rs gs ss) := HXr.out.below b8
          have HYr : Hid (IsTx V8 ra' ga' sa' rs' gs' ss') := HYr.out.below b8
          have hB : Hid (Below V.heap.size V V8) := grow_trans hB.out b8
          clear b8
          cases hrx : rx k with
          | true =>
            go_wp2_with fail
            refine (reads_any ra ga sa rc gc sc rs gs ss k _ HXr.out).mono ?_
            rintro e V9 ⟨rfl, hw9⟩
            rw [R1.out k _ hrx]
            have b9 : Below V8.heap.size V8 V9 := by rw [hw9]; exact grow_alloc (Below.refl _ _) _
            clear hw9
            have p0 := ext_cell b9 p0
            have p1 := ext_cell b9 p1
            have p2 := ext_cell b9 p2
            have q0 := ext_cell b9 q0
            have q1 := ext_cell b9 q1
            have q2 := ext_cell b9 q2
            have HXr : Hid (IsTx V9 ra ga sa rs gs ss) := HXr.out.below b9
            have HYr : Hid (IsTx V9 ra' ga' sa' rs' gs' ss') := HYr.out.below b9
            have hB : Hid (Below V.heap.size V V9) := grow_trans hB.out b9
            clear b9
            have HR : Hid (CX = true) := HD.out (k + 1) (by rw [HT.out, HAk]; simp [hwx, hwy, hrx]) (by omega)
            have RB : Hid (Below w.heap.size w V9) := grow_trans G1.out hB.out
            clear p0 p1 p2 q0 q1 q2 HAk HT HXr HYr
            go_wp2
            go_ret
            exact ⟨by rw [HR.out]; rfl, RB.out⟩
          | false =>
            go_wp2_with fail
            refine (reads_any ra ga sa rc gc sc rs gs ss k _ HXr.out).mono ?_
            rintro e V10 ⟨rfl, hw10⟩
            rw [R1.out k _ hrx]
            have b10 : Below V8.heap.size V8 V10 := by rw [hw10]; exact grow_alloc (Below.refl _ _) _
            clear hw10
            have p0 := ext_cell b10 p0
            have p1 := ext_cell b10 p1
            have p2 := ext_cell b10 p2
            have q0 := ext_cell b10 q0
            have q1 := ext_cell b10 q1
            have q2 := ext_cell b10 q2
            have HXr : Hid (IsTx V10 ra ga sa rs gs ss) := HXr.out.below b10
            have HYr : Hid (IsTx V10 ra' ga' sa' rs' gs' ss') := HYr.out.below b10
            have hB : Hid (Below V.heap.size V V10) := grow_trans hB.out b10
            clear b10
            have HR : Hid (ct (k + 1) = false) := by show _ = _; rw [HT.out, HAk]; simp [hwx, hwy, hrx]
            clear p0 p1 p2 q0 q1 q2 HAk HT HXr HYr
            go_wp2
            go_roundw
            case rel => exact ⟨k + 1, by omega, by go_num, HR, hB⟩
            case measure => simp [intOf]; omega
        | false =>
          go_wp2_with fail
          refine (writes_any ra' ga' sa' rc' gc' sc' rs' gs' ss' k _ HYr.out).mono ?_
          rintro e V11 ⟨rfl, hw11⟩
          rw [W2.out k _ hwy]
          have b11 : Below V7.heap.size V7 V11 := by rw [hw11]; exact grow_alloc (Below.refl _ _) _
          clear hw11
          have p0 := ext_cell b11 p0
          have p1 := ext_cell b11 p1
          have p2 := ext_cell b11 p2
          have q0 := ext_cell b11 q0
          have q1 := ext_cell b11 q1
          have q2 := ext_cell b11 q2
          have HXr : Hid (IsTx V11 ra ga sa rs gs ss) := HXr.out.below b11
          have HYr : Hid (IsTx V11 ra' ga' sa' rs' gs' ss') := HYr.out.below b11
          have hB : Hid (Below V.heap.size V V11) := grow_trans hB.out b11
          clear b11
          have HR : Hid (ct (k + 1) = false) := by show _ = _; rw [HT.out, HAk]; simp [hwx, hwy]
          clear p0 p1 p2 q0 q1 q2 HAk HT HXr HYr
          go_wp2
          go_roundw
          case rel => exact ⟨k + 1, by omega, by go_num, HR, hB⟩
          case measure => simp [intOf]; omega
    · have hkk : k = 8 := by omega
      have HR : Hid (CX = false) := by
        have h := hC.out
        rw [hkk] at h
        exact HF.out.trans h
      have RB : Hid (Below w.heap.size w wr) := grow_trans G1.out hB.out
      clear p0 p1 p2 q0 q1 q2 HS HA HF hC
      go_wp2
      go_ret
      exact ⟨by rw [HR.out]; rfl, RB.out⟩
end Go.Proofs.YtebjkmknhpgemaaGreat

namespace Go.Proofs.YtebjkmknhpgemaaGreat
open Go.RowKit

variable (la : Option Addr) (lc : Nat) (l : List TxA) (sa ra wa va : Option Addr) (sc rc tc vc : Nat) (S : SA)

set_option maxRecDepth 100000 in
set_option maxHeartbeats 20000000 in
/-- The document's may, of a step that writes. -/
theorem docMay_write (sh n k : Nat) (w : World) (hl : IsTxs w la l) (hs : Sta w sa ra wa va S) (hp : ∀ a, a < l.length → pnE sh l a = 0) (hF : Form sh l S) (hn : n < l.length) (h8 : l.length ≤ 8) (hk : k < sh) (h4 : sh ≤ 4) :
    Calls Tryz.prog 65 #[.agg #[.int .i64 (sh : Int), .slice la l.length lc], .agg #[.slice sa S.st.length sc, .slice ra S.rd.length rc, .slice wa S.wr.length tc, .slice va S.vs.length vc], .agg #[.int .i64 2, .int .i64 n, .int .i64 k]] w fun e w' => e = .returned (.bool (mayB sh l S 2 n k)) ∧ Below w.heap.size w w' := by
  have h0 : 0 < sh := by omega
  have hW : Hid (Below w.heap.size w (((w.alloc (.cells #[.int .i64 (sh : Int), .slice la l.length lc] 24)).alloc (.cells #[.slice sa S.st.length sc, .slice ra S.rd.length rc, .slice wa S.wr.length tc, .slice va S.vs.length vc] 29)).alloc (.cells #[.int .i64 2, .int .i64 (n : Int), .int .i64 (k : Int)] 48))) := (grow_alloc (grow_alloc (grow_alloc (Below.refl _ _) _) _) _)
  have p0 : (((w.alloc (.cells #[.int .i64 (sh : Int), .slice la l.length lc] 24)).alloc (.cells #[.slice sa S.st.length sc, .slice ra S.rd.length rc, .slice wa S.wr.length tc, .slice va S.vs.length vc] 29)).alloc (.cells #[.int .i64 2, .int .i64 (n : Int), .int .i64 (k : Int)] 48)).cell? ⟨w.heap.size, 0, none⟩ = some (.int .i64 (sh : Int)) := ext_cell (grow_alloc (grow_alloc (Below.refl _ _) _) _) (at_new _ _ 24 _ 0 _ (by first | rfl | simp) rfl)
  have p1 : (((w.alloc (.cells #[.int .i64 (sh : Int), .slice la l.length lc] 24)).alloc (.cells #[.slice sa S.st.length sc, .slice ra S.rd.length rc, .slice wa S.wr.length tc, .slice va S.vs.length vc] 29)).alloc (.cells #[.int .i64 2, .int .i64 (n : Int), .int .i64 (k : Int)] 48)).cell? ⟨w.heap.size, 1, none⟩ = some (.slice la l.length lc) := ext_cell (grow_alloc (grow_alloc (Below.refl _ _) _) _) (at_new _ _ 24 _ 1 _ (by first | rfl | simp) rfl)
  have q0 : (((w.alloc (.cells #[.int .i64 (sh : Int), .slice la l.length lc] 24)).alloc (.cells #[.slice sa S.st.length sc, .slice ra S.rd.length rc, .slice wa S.wr.length tc, .slice va S.vs.length vc] 29)).alloc (.cells #[.int .i64 2, .int .i64 (n : Int), .int .i64 (k : Int)] 48)).cell? ⟨w.heap.size + 1, 0, none⟩ = some (.slice sa S.st.length sc) := ext_cell (grow_alloc (Below.refl _ _) _) (at_new _ _ 29 _ 0 _ (by first | rfl | simp) rfl)
  have q1 : (((w.alloc (.cells #[.int .i64 (sh : Int), .slice la l.length lc] 24)).alloc (.cells #[.slice sa S.st.length sc, .slice ra S.rd.length rc, .slice wa S.wr.length tc, .slice va S.vs.length vc] 29)).alloc (.cells #[.int .i64 2, .int .i64 (n : Int), .int .i64 (k : Int)] 48)).cell? ⟨w.heap.size + 1, 1, none⟩ = some (.slice ra S.rd.length rc) := ext_cell (grow_alloc (Below.refl _ _) _) (at_new _ _ 29 _ 1 _ (by first | rfl | simp) rfl)
  have q2 : (((w.alloc (.cells #[.int .i64 (sh : Int), .slice la l.length lc] 24)).alloc (.cells #[.slice sa S.st.length sc, .slice ra S.rd.length rc, .slice wa S.wr.length tc, .slice va S.vs.length vc] 29)).alloc (.cells #[.int .i64 2, .int .i64 (n : Int), .int .i64 (k : Int)] 48)).cell? ⟨w.heap.size + 1, 2, none⟩ = some (.slice wa S.wr.length tc) := ext_cell (grow_alloc (Below.refl _ _) _) (at_new _ _ 29 _ 2 _ (by first | rfl | simp) rfl)
  have q3 : (((w.alloc (.cells #[.int .i64 (sh : Int), .slice la l.length lc] 24)).alloc (.cells #[.slice sa S.st.length sc, .slice ra S.rd.length rc, .slice wa S.wr.length tc, .slice va S.vs.length vc] 29)).alloc (.cells #[.int .i64 2, .int .i64 (n : Int), .int .i64 (k : Int)] 48)).cell? ⟨w.heap.size + 1, 3, none⟩ = some (.slice va S.vs.length vc) := ext_cell (grow_alloc (Below.refl _ _) _) (at_new _ _ 29 _ 3 _ (by first | rfl | simp) rfl)
  have r0 : (((w.alloc (.cells #[.int .i64 (sh : Int), .slice la l.length lc] 24)).alloc (.cells #[.slice sa S.st.length sc, .slice ra S.rd.length rc, .slice wa S.wr.length tc, .slice va S.vs.length vc] 29)).alloc (.cells #[.int .i64 2, .int .i64 (n : Int), .int .i64 (k : Int)] 48)).cell? ⟨w.heap.size + 2, 0, none⟩ = some (.int .i64 2) := ext_cell (Below.refl _ _) (at_new _ _ 48 _ 0 _ (by first | rfl | simp) rfl)
  have r1 : (((w.alloc (.cells #[.int .i64 (sh : Int), .slice la l.length lc] 24)).alloc (.cells #[.slice sa S.st.length sc, .slice ra S.rd.length rc, .slice wa S.wr.length tc, .slice va S.vs.length vc] 29)).alloc (.cells #[.int .i64 2, .int .i64 (n : Int), .int .i64 (k : Int)] 48)).cell? ⟨w.heap.size + 2, 1, none⟩ = some (.int .i64 (n : Int)) := ext_cell (Below.refl _ _) (at_new _ _ 48 _ 1 _ (by first | rfl | simp) rfl)
  have r2 : (((w.alloc (.cells #[.int .i64 (sh : Int), .slice la l.length lc] 24)).alloc (.cells #[.slice sa S.st.length sc, .slice ra S.rd.length rc, .slice wa S.wr.length tc, .slice va S.vs.length vc] 29)).alloc (.cells #[.int .i64 2, .int .i64 (n : Int), .int .i64 (k : Int)] 48)).cell? ⟨w.heap.size + 2, 2, none⟩ = some (.int .i64 (k : Int)) := ext_cell (Below.refl _ _) (at_new _ _ 48 _ 2 _ (by first | rfl | simp) rfl)
  have KEEP : Hid (∀ w', Below (((w.alloc (.cells #[.int .i64 (sh : Int), .slice la l.length lc] 24)).alloc (.cells #[.slice sa S.st.length sc, .slice ra S.rd.length rc, .slice wa S.wr.length tc, .slice va S.vs.length vc] 29)).alloc (.cells #[.int .i64 2, .int .i64 (n : Int), .int .i64 (k : Int)] 48)).heap.size (((w.alloc (.cells #[.int .i64 (sh : Int), .slice la l.length lc] 24)).alloc (.cells #[.slice sa S.st.length sc, .slice ra S.rd.length rc, .slice wa S.wr.length tc, .slice va S.vs.length vc] 29)).alloc (.cells #[.int .i64 2, .int .i64 (n : Int), .int .i64 (k : Int)] 48)) w' → w'.cell? ⟨w.heap.size, 0, none⟩ = some (.int .i64 (sh : Int)) ∧ w'.cell? ⟨w.heap.size, 1, none⟩ = some (.slice la l.length lc) ∧ w'.cell? ⟨w.heap.size + 1, 0, none⟩ = some (.slice sa S.st.length sc) ∧ w'.cell? ⟨w.heap.size + 1, 1, none⟩ = some (.slice ra S.rd.length rc) ∧ w'.cell? ⟨w.heap.size + 1, 2, none⟩ = some (.slice wa S.wr.length tc) ∧ w'.cell? ⟨w.heap.size + 1, 3, none⟩ = some (.slice va S.vs.length vc) ∧ w'.cell? ⟨w.heap.size + 2, 0, none⟩ = some (.int .i64 2) ∧ w'.cell? ⟨w.heap.size + 2, 1, none⟩ = some (.int .i64 (n : Int)) ∧ w'.cell? ⟨w.heap.size + 2, 2, none⟩ = some (.int .i64 (k : Int))) := fun w' hb => ⟨ext_cell hb p0, ext_cell hb p1, ext_cell hb q0, ext_cell hb q1, ext_cell hb q2, ext_cell hb q3, ext_cell hb r0, ext_cell hb r1, ext_cell hb r2⟩
  have HS : Hid (Sta (((w.alloc (.cells #[.int .i64 (sh : Int), .slice la l.length lc] 24)).alloc (.cells #[.slice sa S.st.length sc, .slice ra S.rd.length rc, .slice wa S.wr.length tc, .slice va S.vs.length vc] 29)).alloc (.cells #[.int .i64 2, .int .i64 (n : Int), .int .i64 (k : Int)] 48)) sa ra wa va S) := hs.below hW.out
  have HL : Hid (IsTxs (((w.alloc (.cells #[.int .i64 (sh : Int), .slice la l.length lc] 24)).alloc (.cells #[.slice sa S.st.length sc, .slice ra S.rd.length rc, .slice wa S.wr.length tc, .slice va S.vs.length vc] 29)).alloc (.cells #[.int .i64 2, .int .i64 (n : Int), .int .i64 (k : Int)] 48)) la l) := hl.below hW.out
  have HM : Hid (mayB sh l S 2 n k = (acB sh (gX l n) k && !at2 S.wr n k && allRd sh l S n)) := rfl
  generalize mayB sh l S 2 n k = RR at *
  clear hl hs p0 p1 q0 q1 q2 q3 r0 r1 r2
  go_enter Tryz.func65, Tryz.ntmps65
  go_upto_region 1 with fail
  generalize (((w.alloc (.cells #[.int .i64 (sh : Int), .slice la l.length lc] 24)).alloc (.cells #[.slice sa S.st.length sc, .slice ra S.rd.length rc, .slice wa S.wr.length tc, .slice va S.vs.length vc] 29)).alloc (.cells #[.int .i64 2, .int .i64 (n : Int), .int .i64 (k : Int)] 48)) = W at *
  obtain ⟨p0, p1, q0, q1, q2, q3, r0, r1, r2⟩ := KEEP.out W (Below.refl _ _)
  go_upto_region 2 with fail
  cases eP : acB sh (gX l n) k with
  | false =>
    have HP : Hid (acB sh (gX l n) k = false) := eP
    obtain rfl : RR = false := by rw [HM.out, eP]; rfl
    clear HM
    have CA : Hid (∀ w1, Below W.heap.size W w1 → Calls Tryz.prog 54 #[.agg #[.int .i64 sh, .slice la l.length lc], .int .i64 n] w1 fun e w' => ∃ b3 o3 c3, e = .returned (.slice (some ⟨b3, o3, none⟩) sh c3) ∧ w'.cell? ⟨b3, o3 + k, none⟩ = some (.bool false) ∧ Below w1.heap.size w1 w') := fun w1 hb => by
      refine (activeOf_any la lc l sh n _ (HL.out.below hb) (hp n hn)).mono ?_
      rintro e w2 ⟨a, c, rfl, hbs, hb2⟩
      have hL := marks_len sh (setsIn (locksAt l n))
      obtain ⟨b3, o3, rfl, _, d3⟩ := hbs k (by rw [hL]; exact hk)
      refine ⟨b3, o3, c, by rw [hL], ?_, hb2⟩
      exact d3.trans (congrArg (fun x => some (Value.bool x)) HP.out)
    have KS : Hid (∀ w', Below W.heap.size W w' → w'.cell? ⟨w.heap.size, 0, none⟩ = some (.int .i64 (sh : Int)) ∧ w'.cell? ⟨w.heap.size, 1, none⟩ = some (.slice la l.length lc) ∧ w'.cell? ⟨w.heap.size + 2, 1, none⟩ = some (.int .i64 (n : Int)) ∧ w'.cell? ⟨w.heap.size + 2, 2, none⟩ = some (.int .i64 (k : Int)) ∧ Hid (Below W.heap.size W w')) := fun w' hb => ⟨ext_cell hb p0, ext_cell hb p1, ext_cell hb r1, ext_cell hb r2, hb⟩
    clear HP HS HL hF hp KEEP h8 h4 h0 p0 p1 q0 q1 q2 q3 r0 r1 r2
    refine wp_region_held_drew (S := (fun w' => w'.cell? ⟨w.heap.size, 0, none⟩ = some (.int .i64 (sh : Int)) ∧ w'.cell? ⟨w.heap.size, 1, none⟩ = some (.slice la l.length lc) ∧ w'.cell? ⟨w.heap.size + 2, 1, none⟩ = some (.int .i64 (n : Int)) ∧ w'.cell? ⟨w.heap.size + 2, 2, none⟩ = some (.int .i64 (k : Int)) ∧ Hid (Below W.heap.size W w'))) (by kernel_rfl) ?_ (fun hHeld => ?_)
    · refine KS.out _ ?_
      exact grow_drew (Below.refl _ _)
    refine wpAnyH_take (i := 0) (oi := { dst := some 11, op := .load 24 (.tmp 3), type := 24, pos := "steps.go:63", after := #[], guard := none }) (v := ?_) rfl (by kernel_rfl) (by kernel_rfl) (by kernel_rfl) (fun _ _ _ h => h) (Or.inl ⟨by rfl, ?_⟩) (by assumption) ?_
    rotate_left
    · intro w hSw
      go_simp
      first | done | with_reducible rfl
    try simp only [Act.put, List.setIfInBounds_toArray, List.set_cons_zero, List.set_cons_succ]
    refine wpAnyH_take (i := 1) (oi := { dst := some 12, op := .fieldAddr 48 (.tmp 5) 1, type := 0, pos := "steps.go:63", after := #[], guard := none }) (v := ?_) rfl (by kernel_rfl) (by kernel_rfl) (by kernel_rfl) (fun _ _ _ h => h) (Or.inl ⟨by rfl, ?_⟩) (by assumption) ?_
    rotate_left
    · intro w hSw
      go_simp
      first | done | with_reducible rfl
    try simp only [Act.put, List.setIfInBounds_toArray, List.set_cons_zero, List.set_cons_succ]
    refine wpAnyH_take (i := 2) (oi := { dst := some 13, op := .load 3 (.tmp 12), type := 3, pos := "steps.go:63", after := #[{ on := 1, ground := .data }], guard := none }) (v := ?_) rfl (by kernel_rfl) (by kernel_rfl) (by kernel_rfl) (fun _ _ _ h => h) (Or.inl ⟨by rfl, ?_⟩) (by assumption) ?_
    rotate_left
    · intro w hSw
      go_simp
      first | done | with_reducible rfl
    try simp only [Act.put, List.setIfInBounds_toArray, List.set_cons_zero, List.set_cons_succ]
    refine wpAnyH_take (i := 4) (oi := { dst := some 15, op := .fieldAddr 48 (.tmp 5) 2, type := 0, pos := "steps.go:63", after := #[], guard := none }) (v := ?_) rfl (by kernel_rfl) (by kernel_rfl) (by kernel_rfl) (fun _ _ _ h => h) (Or.inl ⟨by rfl, ?_⟩) (by assumption) ?_
    rotate_left
    · intro w hSw
      go_simp
      first | done | with_reducible rfl
    try simp only [Act.put, List.setIfInBounds_toArray, List.set_cons_zero, List.set_cons_succ]
    refine wpAnyH_take (i := 5) (oi := { dst := some 16, op := .load 3 (.tmp 15), type := 3, pos := "steps.go:63", after := #[{ on := 4, ground := .data }], guard := none }) (v := ?_) rfl (by kernel_rfl) (by kernel_rfl) (by kernel_rfl) (fun _ _ _ h => h) (Or.inl ⟨by rfl, ?_⟩) (by assumption) ?_
    rotate_left
    · intro w hSw
      go_simp
      first | done | with_reducible rfl
    try simp only [Act.put, List.setIfInBounds_toArray, List.set_cons_zero, List.set_cons_succ]
    refine wpAnyH_ready (rs := [3]) (by kernel_rfl) (by simp) ?_
    refine AllReadyH.cons (o := { dst := some 14, op := .call { callee := .value (.func 54), args := #[.tmp 11, .tmp 13], argTypes := #[24, 3] }, type := 65, pos := "steps.go:63", after := #[{ on := 0, ground := .data }, { on := 2, ground := .data }], guard := none }) rfl (fun K hK => ?_) AllReadyH.nil
    go_simp
    go_wp2_with (go_at_call 54; refine (CA.out _ (grow_drew (Below.refl _ _))).mono ?_; rintro e w1 ⟨b3, o3, c3, rfl, d3, hb1⟩)
    have BW : Hid (Below W.heap.size W w1) := grow_trans (grow_drew (Below.refl _ _)) hb1
    clear hHeld
    refine hK.out _ _ (KS.out _ BW.out) (fun hHeld => ?_)
    clear hK K
    refine wpAnyH_take (i := 6) (oi := { dst := some 17, op := .indexAddr 65 (.tmp 14) (.tmp 16), type := 0, pos := "steps.go:63", after := #[{ on := 3, ground := .data }, { on := 5, ground := .data }], guard := none }) (v := ?_) rfl (by kernel_rfl) (by kernel_rfl) (by kernel_rfl) (fun _ _ _ h => h) (Or.inl ⟨by rfl, ?_⟩) (by assumption) ?_
    rotate_left
    · intro w hSw
      go_simp
      first | done | with_reducible rfl
    try simp only [Act.put, List.setIfInBounds_toArray, List.set_cons_zero, List.set_cons_succ]
    refine wpAnyH_ready (rs := [7]) (by kernel_rfl) (by simp) ?_
    refine AllReadyH.cons (o := { dst := some 18, op := .load 4 (.tmp 17), type := 4, pos := "steps.go:63", after := #[{ on := 6, ground := .data }], guard := none }) rfl (fun K hK => ?_) AllReadyH.nil
    go_simp
    skip
    clear hHeld
    refine hK.out _ _ (KS.out _ BW.out) (fun hHeld => ?_)
    clear hK K
    refine wpAnyH_take (i := 8) (oi := { dst := some 19, op := .move (.tmp 18), type := 4, pos := "steps.go:63", after := #[{ on := 7, ground := .data }, { on := 3, ground := .chain }], guard := none }) (v := ?_) rfl (by kernel_rfl) (by kernel_rfl) (by kernel_rfl) (fun _ _ _ h => h) (Or.inl ⟨by rfl, ?_⟩) (by assumption) ?_
    rotate_left
    · intro w hSw
      go_simp
      first | done | with_reducible rfl
    try simp only [Act.put, List.setIfInBounds_toArray, List.set_cons_zero, List.set_cons_succ]
    refine wpAnyH_take (i := 9) (oi := { dst := some 20, op := .fieldAddr 29 (.tmp 4) 2, type := 0, pos := "steps.go:63", after := #[{ on := 8, ground := .guard }], guard := some (8, true) }) (v := undef) rfl (by kernel_rfl) (by kernel_rfl) (by kernel_rfl) (fun _ _ _ h => h) (Or.inr ⟨by rfl, rfl⟩) (by assumption) ?_
    try simp only [Act.put, List.setIfInBounds_toArray, List.set_cons_zero, List.set_cons_succ]
    refine wpAnyH_take (i := 10) (oi := { dst := some 21, op := .load 26 (.tmp 20), type := 26, pos := "steps.go:63", after := #[{ on := 9, ground := .data }, { on := 8, ground := .guard }], guard := some (8, true) }) (v := undef) rfl (by kernel_rfl) (by kernel_rfl) (by kernel_rfl) (fun _ _ _ h => h) (Or.inr ⟨by rfl, rfl⟩) (by assumption) ?_
    try simp only [Act.put, List.setIfInBounds_toArray, List.set_cons_zero, List.set_cons_succ]
    refine wpAnyH_take (i := 11) (oi := { dst := some 22, op := .fieldAddr 48 (.tmp 5) 1, type := 0, pos := "steps.go:63", after := #[{ on := 8, ground := .guard }], guard := some (8, true) }) (v := undef) rfl (by kernel_rfl) (by kernel_rfl) (by kernel_rfl) (fun _ _ _ h => h) (Or.inr ⟨by rfl, rfl⟩) (by assumption) ?_
    try simp only [Act.put, List.setIfInBounds_toArray, List.set_cons_zero, List.set_cons_succ]
    refine wpAnyH_take (i := 12) (oi := { dst := some 23, op := .load 3 (.tmp 22), type := 3, pos := "steps.go:63", after := #[{ on := 11, ground := .data }, { on := 8, ground := .guard }], guard := some (8, true) }) (v := undef) rfl (by kernel_rfl) (by kernel_rfl) (by kernel_rfl) (fun _ _ _ h => h) (Or.inr ⟨by rfl, rfl⟩) (by assumption) ?_
    try simp only [Act.put, List.setIfInBounds_toArray, List.set_cons_zero, List.set_cons_succ]
    refine wpAnyH_take (i := 13) (oi := { dst := some 24, op := .indexAddr 26 (.tmp 21) (.tmp 23), type := 0, pos := "steps.go:63", after := #[{ on := 10, ground := .data }, { on := 12, ground := .data }, { on := 8, ground := .guard }], guard := some (8, true) }) (v := undef) rfl (by kernel_rfl) (by kernel_rfl) (by kernel_rfl) (fun _ _ _ h => h) (Or.inr ⟨by rfl, rfl⟩) (by assumption) ?_
    try simp only [Act.put, List.setIfInBounds_toArray, List.set_cons_zero, List.set_cons_succ]
    refine wpAnyH_take (i := 14) (oi := { dst := some 25, op := .load 65 (.tmp 24), type := 65, pos := "steps.go:63", after := #[{ on := 13, ground := .data }, { on := 8, ground := .guard }], guard := some (8, true) }) (v := undef) rfl (by kernel_rfl) (by kernel_rfl) (by kernel_rfl) (fun _ _ _ h => h) (Or.inr ⟨by rfl, rfl⟩) (by assumption) ?_
    try simp only [Act.put, List.setIfInBounds_toArray, List.set_cons_zero, List.set_cons_succ]
    refine wpAnyH_take (i := 15) (oi := { dst := some 26, op := .fieldAddr 48 (.tmp 5) 2, type := 0, pos := "steps.go:63", after := #[{ on := 8, ground := .guard }], guard := some (8, true) }) (v := undef) rfl (by kernel_rfl) (by kernel_rfl) (by kernel_rfl) (fun _ _ _ h => h) (Or.inr ⟨by rfl, rfl⟩) (by assumption) ?_
    try simp only [Act.put, List.setIfInBounds_toArray, List.set_cons_zero, List.set_cons_succ]
    refine wpAnyH_take (i := 16) (oi := { dst := some 27, op := .load 3 (.tmp 26), type := 3, pos := "steps.go:63", after := #[{ on := 15, ground := .data }, { on := 8, ground := .guard }], guard := some (8, true) }) (v := undef) rfl (by kernel_rfl) (by kernel_rfl) (by kernel_rfl) (fun _ _ _ h => h) (Or.inr ⟨by rfl, rfl⟩) (by assumption) ?_
    try simp only [Act.put, List.setIfInBounds_toArray, List.set_cons_zero, List.set_cons_succ]
    refine wpAnyH_take (i := 17) (oi := { dst := some 28, op := .indexAddr 65 (.tmp 25) (.tmp 27), type := 0, pos := "steps.go:63", after := #[{ on := 14, ground := .data }, { on := 16, ground := .data }, { on := 8, ground := .guard }], guard := some (8, true) }) (v := undef) rfl (by kernel_rfl) (by kernel_rfl) (by kernel_rfl) (fun _ _ _ h => h) (Or.inr ⟨by rfl, rfl⟩) (by assumption) ?_
    try simp only [Act.put, List.setIfInBounds_toArray, List.set_cons_zero, List.set_cons_succ]
    refine wpAnyH_take (i := 18) (oi := { dst := some 29, op := .load 4 (.tmp 28), type := 4, pos := "steps.go:63", after := #[{ on := 17, ground := .data }, { on := 8, ground := .guard }], guard := some (8, true) }) (v := undef) rfl (by kernel_rfl) (by kernel_rfl) (by kernel_rfl) (fun _ _ _ h => h) (Or.inr ⟨by rfl, rfl⟩) (by assumption) ?_
    try simp only [Act.put, List.setIfInBounds_toArray, List.set_cons_zero, List.set_cons_succ]
    refine wpAnyH_take (i := 19) (oi := { dst := some 30, op := .unOp .not 4 (.tmp 29), type := 4, pos := "steps.go:63", after := #[{ on := 18, ground := .data }, { on := 8, ground := .guard }], guard := some (8, true) }) (v := undef) rfl (by kernel_rfl) (by kernel_rfl) (by kernel_rfl) (fun _ _ _ h => h) (Or.inr ⟨by rfl, rfl⟩) (by assumption) ?_
    try simp only [Act.put, List.setIfInBounds_toArray, List.set_cons_zero, List.set_cons_succ]
    refine wpAnyH_take (i := 20) (oi := { dst := some 31, op := .pick (.tmp 19) (.tmp 30) (.const (.bool false)), type := 4, pos := "steps.go:63", after := #[{ on := 8, ground := .data }, { on := 19, ground := .data }], guard := none }) (v := ?_) rfl (by kernel_rfl) (by kernel_rfl) (by kernel_rfl) (fun _ _ _ h => h) (Or.inl ⟨by rfl, ?_⟩) (by assumption) ?_
    rotate_left
    · intro w hSw
      go_simp
      first | done | with_reducible rfl
    try simp only [Act.put, List.setIfInBounds_toArray, List.set_cons_zero, List.set_cons_succ]
    refine wpAnyH_take (i := 21) (oi := { dst := some 32, op := .move (.tmp 31), type := 4, pos := "steps.go:63", after := #[{ on := 20, ground := .data }, { on := 8, ground := .chain }], guard := none }) (v := ?_) rfl (by kernel_rfl) (by kernel_rfl) (by kernel_rfl) (fun _ _ _ h => h) (Or.inl ⟨by rfl, ?_⟩) (by assumption) ?_
    rotate_left
    · intro w hSw
      go_simp
      first | done | with_reducible rfl
    try simp only [Act.put, List.setIfInBounds_toArray, List.set_cons_zero, List.set_cons_succ]
    refine wpAnyH_take (i := 22) (oi := { dst := some 33, op := .load 24 (.tmp 3), type := 24, pos := "steps.go:63", after := #[{ on := 21, ground := .guard }], guard := some (21, true) }) (v := undef) rfl (by kernel_rfl) (by kernel_rfl) (by kernel_rfl) (fun _ _ _ h => h) (Or.inr ⟨by rfl, rfl⟩) (by assumption) ?_
    try simp only [Act.put, List.setIfInBounds_toArray, List.set_cons_zero, List.set_cons_succ]
    refine wpAnyH_take (i := 23) (oi := { dst := some 34, op := .load 29 (.tmp 4), type := 29, pos := "steps.go:63", after := #[{ on := 21, ground := .guard }], guard := some (21, true) }) (v := undef) rfl (by kernel_rfl) (by kernel_rfl) (by kernel_rfl) (fun _ _ _ h => h) (Or.inr ⟨by rfl, rfl⟩) (by assumption) ?_
    try simp only [Act.put, List.setIfInBounds_toArray, List.set_cons_zero, List.set_cons_succ]
    refine wpAnyH_take (i := 24) (oi := { dst := some 35, op := .fieldAddr 48 (.tmp 5) 1, type := 0, pos := "steps.go:63", after := #[{ on := 21, ground := .guard }], guard := some (21, true) }) (v := undef) rfl (by kernel_rfl) (by kernel_rfl) (by kernel_rfl) (fun _ _ _ h => h) (Or.inr ⟨by rfl, rfl⟩) (by assumption) ?_
    try simp only [Act.put, List.setIfInBounds_toArray, List.set_cons_zero, List.set_cons_succ]
    refine wpAnyH_take (i := 25) (oi := { dst := some 36, op := .load 3 (.tmp 35), type := 3, pos := "steps.go:63", after := #[{ on := 24, ground := .data }, { on := 21, ground := .guard }], guard := some (21, true) }) (v := undef) rfl (by kernel_rfl) (by kernel_rfl) (by kernel_rfl) (fun _ _ _ h => h) (Or.inr ⟨by rfl, rfl⟩) (by assumption) ?_
    try simp only [Act.put, List.setIfInBounds_toArray, List.set_cons_zero, List.set_cons_succ]
    refine wpAnyH_take (i := 26) (oi := { dst := some 37, op := .call { callee := .value (.func 55), args := #[.tmp 33, .tmp 34, .tmp 36], argTypes := #[24, 29, 3] }, type := 4, pos := "steps.go:63", after := #[{ on := 22, ground := .data }, { on := 23, ground := .data }, { on := 25, ground := .data }, { on := 21, ground := .chain }, { on := 21, ground := .guard }], guard := some (21, true) }) (v := undef) rfl (by kernel_rfl) (by kernel_rfl) (by kernel_rfl) (fun _ _ _ h => h) (Or.inr ⟨by rfl, rfl⟩) (by assumption) ?_
    try simp only [Act.put, List.setIfInBounds_toArray, List.set_cons_zero, List.set_cons_succ]
    refine wpAnyH_take (i := 27) (oi := { dst := some 38, op := .pick (.tmp 32) (.tmp 37) (.const (.bool false)), type := 4, pos := "steps.go:63", after := #[{ on := 21, ground := .data }, { on := 26, ground := .data }], guard := none }) (v := ?_) rfl (by kernel_rfl) (by kernel_rfl) (by kernel_rfl) (fun _ _ _ h => h) (Or.inl ⟨by rfl, ?_⟩) (by assumption) ?_
    rotate_left
    · intro w hSw
      go_simp
      first | done | with_reducible rfl
    try simp only [Act.put, List.setIfInBounds_toArray, List.set_cons_zero, List.set_cons_succ]
    refine wpAnyH_take (i := 28) (oi := { dst := some 6, op := .assign (.tmp 38), type := 4, pos := "steps.go:63", after := #[{ on := 27, ground := .data }, { on := 26, ground := .chain }, { on := 0, ground := .phase }, { on := 1, ground := .phase }, { on := 2, ground := .phase }, { on := 3, ground := .phase }, { on := 4, ground := .phase }, { on := 5, ground := .phase }, { on := 6, ground := .phase }, { on := 7, ground := .phase }, { on := 8, ground := .phase }, { on := 9, ground := .phase }, { on := 10, ground := .phase }, { on := 11, ground := .phase }, { on := 12, ground := .phase }, { on := 13, ground := .phase }, { on := 14, ground := .phase }, { on := 15, ground := .phase }, { on := 16, ground := .phase }, { on := 17, ground := .phase }, { on := 18, ground := .phase }, { on := 19, ground := .phase }, { on := 20, ground := .phase }, { on := 21, ground := .phase }, { on := 22, ground := .phase }, { on := 23, ground := .phase }, { on := 24, ground := .phase }, { on := 25, ground := .phase }, { on := 26, ground := .phase }, { on := 27, ground := .phase }], guard := none }) (v := ?_) rfl (by kernel_rfl) (by kernel_rfl) (by kernel_rfl) (fun _ _ _ h => h) (Or.inl ⟨by rfl, ?_⟩) (by assumption) ?_
    rotate_left
    · intro w hSw
      go_simp
      first | done | with_reducible rfl
    try simp only [Act.put, List.setIfInBounds_toArray, List.set_cons_zero, List.set_cons_succ]
    refine wpAnyH_done (by kernel_rfl) ?_ _
    go_wp2
    go_ret
    exact ⟨rfl, grow_trans hW.out BW.out⟩

  | true =>
    have HP : Hid (acB sh (gX l n) k = true) := eP
    cases eQ : at2 S.wr n k with
    | true =>
      obtain rfl : RR = false := by rw [HM.out, eP, eQ]; rfl
      clear HM
      have CA : Hid (∀ w1, Below W.heap.size W w1 → Calls Tryz.prog 54 #[.agg #[.int .i64 sh, .slice la l.length lc], .int .i64 n] w1 fun e w' => ∃ b3 o3 c3, e = .returned (.slice (some ⟨b3, o3, none⟩) sh c3) ∧ w'.cell? ⟨b3, o3 + k, none⟩ = some (.bool true) ∧ Below w1.heap.size w1 w') := fun w1 hb => by
        refine (activeOf_any la lc l sh n _ (HL.out.below hb) (hp n hn)).mono ?_
        rintro e w2 ⟨a, c, rfl, hbs, hb2⟩
        have hL := marks_len sh (setsIn (locksAt l n))
        obtain ⟨b3, o3, rfl, _, d3⟩ := hbs k (by rw [hL]; exact hk)
        refine ⟨b3, o3, c, by rw [hL], ?_, hb2⟩
        exact d3.trans (congrArg (fun x => some (Value.bool x)) HP.out)
      obtain ⟨b6, o6, b7, o7, c7, e6, _, _, z6, z7⟩ := HS.out.wr.rows hF.wr hF.wn h0 n hn
      have z7 := z7 k hk
      rw [eQ] at z7
      rw [e6, hF.wr] at q2
      have KS : Hid (∀ w', Below W.heap.size W w' → w'.cell? ⟨w.heap.size, 0, none⟩ = some (.int .i64 (sh : Int)) ∧ w'.cell? ⟨w.heap.size, 1, none⟩ = some (.slice la l.length lc) ∧ w'.cell? ⟨w.heap.size + 1, 2, none⟩ = some (.slice (some ⟨b6, o6, none⟩) l.length tc) ∧ w'.cell? ⟨w.heap.size + 2, 1, none⟩ = some (.int .i64 (n : Int)) ∧ w'.cell? ⟨w.heap.size + 2, 2, none⟩ = some (.int .i64 (k : Int)) ∧ w'.cell? ⟨b6, o6 + n, none⟩ = some (.slice (some ⟨b7, o7, none⟩) sh c7) ∧ w'.cell? ⟨b7, o7 + k, none⟩ = some (.bool true) ∧ Hid (Below W.heap.size W w')) := fun w' hb => ⟨ext_cell hb p0, ext_cell hb p1, ext_cell hb q2, ext_cell hb r1, ext_cell hb r2, ext_cell hb z6, ext_cell hb z7, hb⟩
      clear HP HS HL hF hp KEEP h8 h4 h0 p0 p1 q0 q1 q2 q3 r0 r1 r2 z6 z7 e6
      refine wp_region_held_drew (S := (fun w' => w'.cell? ⟨w.heap.size, 0, none⟩ = some (.int .i64 (sh : Int)) ∧ w'.cell? ⟨w.heap.size, 1, none⟩ = some (.slice la l.length lc) ∧ w'.cell? ⟨w.heap.size + 1, 2, none⟩ = some (.slice (some ⟨b6, o6, none⟩) l.length tc) ∧ w'.cell? ⟨w.heap.size + 2, 1, none⟩ = some (.int .i64 (n : Int)) ∧ w'.cell? ⟨w.heap.size + 2, 2, none⟩ = some (.int .i64 (k : Int)) ∧ w'.cell? ⟨b6, o6 + n, none⟩ = some (.slice (some ⟨b7, o7, none⟩) sh c7) ∧ w'.cell? ⟨b7, o7 + k, none⟩ = some (.bool true) ∧ Hid (Below W.heap.size W w'))) (by kernel_rfl) ?_ (fun hHeld => ?_)
      · refine KS.out _ ?_
        exact grow_drew (Below.refl _ _)
      refine wpAnyH_take (i := 0) (oi := { dst := some 11, op := .load 24 (.tmp 3), type := 24, pos := "steps.go:63", after := #[], guard := none }) (v := ?_) rfl (by kernel_rfl) (by kernel_rfl) (by kernel_rfl) (fun _ _ _ h => h) (Or.inl ⟨by rfl, ?_⟩) (by assumption) ?_
      rotate_left
      · intro w hSw
        go_simp
        first | done | with_reducible rfl
      try simp only [Act.put, List.setIfInBounds_toArray, List.set_cons_zero, List.set_cons_succ]
      refine wpAnyH_take (i := 1) (oi := { dst := some 12, op := .fieldAddr 48 (.tmp 5) 1, type := 0, pos := "steps.go:63", after := #[], guard := none }) (v := ?_) rfl (by kernel_rfl) (by kernel_rfl) (by kernel_rfl) (fun _ _ _ h => h) (Or.inl ⟨by rfl, ?_⟩) (by assumption) ?_
      rotate_left
      · intro w hSw
        go_simp
        first | done | with_reducible rfl
      try simp only [Act.put, List.setIfInBounds_toArray, List.set_cons_zero, List.set_cons_succ]
      refine wpAnyH_take (i := 2) (oi := { dst := some 13, op := .load 3 (.tmp 12), type := 3, pos := "steps.go:63", after := #[{ on := 1, ground := .data }], guard := none }) (v := ?_) rfl (by kernel_rfl) (by kernel_rfl) (by kernel_rfl) (fun _ _ _ h => h) (Or.inl ⟨by rfl, ?_⟩) (by assumption) ?_
      rotate_left
      · intro w hSw
        go_simp
        first | done | with_reducible rfl
      try simp only [Act.put, List.setIfInBounds_toArray, List.set_cons_zero, List.set_cons_succ]
      refine wpAnyH_take (i := 4) (oi := { dst := some 15, op := .fieldAddr 48 (.tmp 5) 2, type := 0, pos := "steps.go:63", after := #[], guard := none }) (v := ?_) rfl (by kernel_rfl) (by kernel_rfl) (by kernel_rfl) (fun _ _ _ h => h) (Or.inl ⟨by rfl, ?_⟩) (by assumption) ?_
      rotate_left
      · intro w hSw
        go_simp
        first | done | with_reducible rfl
      try simp only [Act.put, List.setIfInBounds_toArray, List.set_cons_zero, List.set_cons_succ]
      refine wpAnyH_take (i := 5) (oi := { dst := some 16, op := .load 3 (.tmp 15), type := 3, pos := "steps.go:63", after := #[{ on := 4, ground := .data }], guard := none }) (v := ?_) rfl (by kernel_rfl) (by kernel_rfl) (by kernel_rfl) (fun _ _ _ h => h) (Or.inl ⟨by rfl, ?_⟩) (by assumption) ?_
      rotate_left
      · intro w hSw
        go_simp
        first | done | with_reducible rfl
      try simp only [Act.put, List.setIfInBounds_toArray, List.set_cons_zero, List.set_cons_succ]
      refine wpAnyH_ready (rs := [3]) (by kernel_rfl) (by simp) ?_
      refine AllReadyH.cons (o := { dst := some 14, op := .call { callee := .value (.func 54), args := #[.tmp 11, .tmp 13], argTypes := #[24, 3] }, type := 65, pos := "steps.go:63", after := #[{ on := 0, ground := .data }, { on := 2, ground := .data }], guard := none }) rfl (fun K hK => ?_) AllReadyH.nil
      go_simp
      go_wp2_with (go_at_call 54; refine (CA.out _ (grow_drew (Below.refl _ _))).mono ?_; rintro e w1 ⟨b3, o3, c3, rfl, d3, hb1⟩)
      have BW : Hid (Below W.heap.size W w1) := grow_trans (grow_drew (Below.refl _ _)) hb1
      clear hHeld
      refine hK.out _ _ (KS.out _ BW.out) (fun hHeld => ?_)
      clear hK K
      refine wpAnyH_take (i := 6) (oi := { dst := some 17, op := .indexAddr 65 (.tmp 14) (.tmp 16), type := 0, pos := "steps.go:63", after := #[{ on := 3, ground := .data }, { on := 5, ground := .data }], guard := none }) (v := ?_) rfl (by kernel_rfl) (by kernel_rfl) (by kernel_rfl) (fun _ _ _ h => h) (Or.inl ⟨by rfl, ?_⟩) (by assumption) ?_
      rotate_left
      · intro w hSw
        go_simp
        first | done | with_reducible rfl
      try simp only [Act.put, List.setIfInBounds_toArray, List.set_cons_zero, List.set_cons_succ]
      refine wpAnyH_ready (rs := [7]) (by kernel_rfl) (by simp) ?_
      refine AllReadyH.cons (o := { dst := some 18, op := .load 4 (.tmp 17), type := 4, pos := "steps.go:63", after := #[{ on := 6, ground := .data }], guard := none }) rfl (fun K hK => ?_) AllReadyH.nil
      go_simp
      skip
      clear hHeld
      refine hK.out _ _ (KS.out _ BW.out) (fun hHeld => ?_)
      clear hK K
      refine wpAnyH_take (i := 8) (oi := { dst := some 19, op := .move (.tmp 18), type := 4, pos := "steps.go:63", after := #[{ on := 7, ground := .data }, { on := 3, ground := .chain }], guard := none }) (v := ?_) rfl (by kernel_rfl) (by kernel_rfl) (by kernel_rfl) (fun _ _ _ h => h) (Or.inl ⟨by rfl, ?_⟩) (by assumption) ?_
      rotate_left
      · intro w hSw
        go_simp
        first | done | with_reducible rfl
      try simp only [Act.put, List.setIfInBounds_toArray, List.set_cons_zero, List.set_cons_succ]
      refine wpAnyH_take (i := 9) (oi := { dst := some 20, op := .fieldAddr 29 (.tmp 4) 2, type := 0, pos := "steps.go:63", after := #[{ on := 8, ground := .guard }], guard := some (8, true) }) (v := ?_) rfl (by kernel_rfl) (by kernel_rfl) (by kernel_rfl) (fun _ _ _ h => h) (Or.inl ⟨by rfl, ?_⟩) (by assumption) ?_
      rotate_left
      · intro w hSw
        go_simp
        first | done | with_reducible rfl
      try simp only [Act.put, List.setIfInBounds_toArray, List.set_cons_zero, List.set_cons_succ]
      refine wpAnyH_take (i := 10) (oi := { dst := some 21, op := .load 26 (.tmp 20), type := 26, pos := "steps.go:63", after := #[{ on := 9, ground := .data }, { on := 8, ground := .guard }], guard := some (8, true) }) (v := ?_) rfl (by kernel_rfl) (by kernel_rfl) (by kernel_rfl) (fun _ _ _ h => h) (Or.inl ⟨by rfl, ?_⟩) (by assumption) ?_
      rotate_left
      · intro w hSw
        go_simp
        first | done | with_reducible rfl
      try simp only [Act.put, List.setIfInBounds_toArray, List.set_cons_zero, List.set_cons_succ]
      refine wpAnyH_take (i := 11) (oi := { dst := some 22, op := .fieldAddr 48 (.tmp 5) 1, type := 0, pos := "steps.go:63", after := #[{ on := 8, ground := .guard }], guard := some (8, true) }) (v := ?_) rfl (by kernel_rfl) (by kernel_rfl) (by kernel_rfl) (fun _ _ _ h => h) (Or.inl ⟨by rfl, ?_⟩) (by assumption) ?_
      rotate_left
      · intro w hSw
        go_simp
        first | done | with_reducible rfl
      try simp only [Act.put, List.setIfInBounds_toArray, List.set_cons_zero, List.set_cons_succ]
      refine wpAnyH_take (i := 12) (oi := { dst := some 23, op := .load 3 (.tmp 22), type := 3, pos := "steps.go:63", after := #[{ on := 11, ground := .data }, { on := 8, ground := .guard }], guard := some (8, true) }) (v := ?_) rfl (by kernel_rfl) (by kernel_rfl) (by kernel_rfl) (fun _ _ _ h => h) (Or.inl ⟨by rfl, ?_⟩) (by assumption) ?_
      rotate_left
      · intro w hSw
        go_simp
        first | done | with_reducible rfl
      try simp only [Act.put, List.setIfInBounds_toArray, List.set_cons_zero, List.set_cons_succ]
      refine wpAnyH_take (i := 13) (oi := { dst := some 24, op := .indexAddr 26 (.tmp 21) (.tmp 23), type := 0, pos := "steps.go:63", after := #[{ on := 10, ground := .data }, { on := 12, ground := .data }, { on := 8, ground := .guard }], guard := some (8, true) }) (v := ?_) rfl (by kernel_rfl) (by kernel_rfl) (by kernel_rfl) (fun _ _ _ h => h) (Or.inl ⟨by rfl, ?_⟩) (by assumption) ?_
      rotate_left
      · intro w hSw
        go_simp
        first | done | with_reducible rfl
      try simp only [Act.put, List.setIfInBounds_toArray, List.set_cons_zero, List.set_cons_succ]
      refine wpAnyH_take (i := 14) (oi := { dst := some 25, op := .load 65 (.tmp 24), type := 65, pos := "steps.go:63", after := #[{ on := 13, ground := .data }, { on := 8, ground := .guard }], guard := some (8, true) }) (v := ?_) rfl (by kernel_rfl) (by kernel_rfl) (by kernel_rfl) (fun _ _ _ h => h) (Or.inl ⟨by rfl, ?_⟩) (by assumption) ?_
      rotate_left
      · intro w hSw
        go_simp
        first | done | with_reducible rfl
      try simp only [Act.put, List.setIfInBounds_toArray, List.set_cons_zero, List.set_cons_succ]
      refine wpAnyH_take (i := 15) (oi := { dst := some 26, op := .fieldAddr 48 (.tmp 5) 2, type := 0, pos := "steps.go:63", after := #[{ on := 8, ground := .guard }], guard := some (8, true) }) (v := ?_) rfl (by kernel_rfl) (by kernel_rfl) (by kernel_rfl) (fun _ _ _ h => h) (Or.inl ⟨by rfl, ?_⟩) (by assumption) ?_
      rotate_left
      · intro w hSw
        go_simp
        first | done | with_reducible rfl
      try simp only [Act.put, List.setIfInBounds_toArray, List.set_cons_zero, List.set_cons_succ]
      refine wpAnyH_take (i := 16) (oi := { dst := some 27, op := .load 3 (.tmp 26), type := 3, pos := "steps.go:63", after := #[{ on := 15, ground := .data }, { on := 8, ground := .guard }], guard := some (8, true) }) (v := ?_) rfl (by kernel_rfl) (by kernel_rfl) (by kernel_rfl) (fun _ _ _ h => h) (Or.inl ⟨by rfl, ?_⟩) (by assumption) ?_
      rotate_left
      · intro w hSw
        go_simp
        first | done | with_reducible rfl
      try simp only [Act.put, List.setIfInBounds_toArray, List.set_cons_zero, List.set_cons_succ]
      refine wpAnyH_take (i := 17) (oi := { dst := some 28, op := .indexAddr 65 (.tmp 25) (.tmp 27), type := 0, pos := "steps.go:63", after := #[{ on := 14, ground := .data }, { on := 16, ground := .data }, { on := 8, ground := .guard }], guard := some (8, true) }) (v := ?_) rfl (by kernel_rfl) (by kernel_rfl) (by kernel_rfl) (fun _ _ _ h => h) (Or.inl ⟨by rfl, ?_⟩) (by assumption) ?_
      rotate_left
      · intro w hSw
        go_simp
        first | done | with_reducible rfl
      try simp only [Act.put, List.setIfInBounds_toArray, List.set_cons_zero, List.set_cons_succ]
      refine wpAnyH_take (i := 18) (oi := { dst := some 29, op := .load 4 (.tmp 28), type := 4, pos := "steps.go:63", after := #[{ on := 17, ground := .data }, { on := 8, ground := .guard }], guard := some (8, true) }) (v := ?_) rfl (by kernel_rfl) (by kernel_rfl) (by kernel_rfl) (fun _ _ _ h => h) (Or.inl ⟨by rfl, ?_⟩) (by assumption) ?_
      rotate_left
      · intro w hSw
        go_simp
        first | done | with_reducible rfl
      try simp only [Act.put, List.setIfInBounds_toArray, List.set_cons_zero, List.set_cons_succ]
      refine wpAnyH_take (i := 19) (oi := { dst := some 30, op := .unOp .not 4 (.tmp 29), type := 4, pos := "steps.go:63", after := #[{ on := 18, ground := .data }, { on := 8, ground := .guard }], guard := some (8, true) }) (v := ?_) rfl (by kernel_rfl) (by kernel_rfl) (by kernel_rfl) (fun _ _ _ h => h) (Or.inl ⟨by rfl, ?_⟩) (by assumption) ?_
      rotate_left
      · intro w hSw
        go_simp
        first | done | with_reducible rfl
      try simp only [Act.put, List.setIfInBounds_toArray, List.set_cons_zero, List.set_cons_succ]
      refine wpAnyH_take (i := 20) (oi := { dst := some 31, op := .pick (.tmp 19) (.tmp 30) (.const (.bool false)), type := 4, pos := "steps.go:63", after := #[{ on := 8, ground := .data }, { on := 19, ground := .data }], guard := none }) (v := ?_) rfl (by kernel_rfl) (by kernel_rfl) (by kernel_rfl) (fun _ _ _ h => h) (Or.inl ⟨by rfl, ?_⟩) (by assumption) ?_
      rotate_left
      · intro w hSw
        go_simp
        first | done | with_reducible rfl
      try simp only [Act.put, List.setIfInBounds_toArray, List.set_cons_zero, List.set_cons_succ]
      refine wpAnyH_take (i := 21) (oi := { dst := some 32, op := .move (.tmp 31), type := 4, pos := "steps.go:63", after := #[{ on := 20, ground := .data }, { on := 8, ground := .chain }], guard := none }) (v := ?_) rfl (by kernel_rfl) (by kernel_rfl) (by kernel_rfl) (fun _ _ _ h => h) (Or.inl ⟨by rfl, ?_⟩) (by assumption) ?_
      rotate_left
      · intro w hSw
        go_simp
        first | done | with_reducible rfl
      try simp only [Act.put, List.setIfInBounds_toArray, List.set_cons_zero, List.set_cons_succ]
      refine wpAnyH_take (i := 22) (oi := { dst := some 33, op := .load 24 (.tmp 3), type := 24, pos := "steps.go:63", after := #[{ on := 21, ground := .guard }], guard := some (21, true) }) (v := undef) rfl (by kernel_rfl) (by kernel_rfl) (by kernel_rfl) (fun _ _ _ h => h) (Or.inr ⟨by rfl, rfl⟩) (by assumption) ?_
      try simp only [Act.put, List.setIfInBounds_toArray, List.set_cons_zero, List.set_cons_succ]
      refine wpAnyH_take (i := 23) (oi := { dst := some 34, op := .load 29 (.tmp 4), type := 29, pos := "steps.go:63", after := #[{ on := 21, ground := .guard }], guard := some (21, true) }) (v := undef) rfl (by kernel_rfl) (by kernel_rfl) (by kernel_rfl) (fun _ _ _ h => h) (Or.inr ⟨by rfl, rfl⟩) (by assumption) ?_
      try simp only [Act.put, List.setIfInBounds_toArray, List.set_cons_zero, List.set_cons_succ]
      refine wpAnyH_take (i := 24) (oi := { dst := some 35, op := .fieldAddr 48 (.tmp 5) 1, type := 0, pos := "steps.go:63", after := #[{ on := 21, ground := .guard }], guard := some (21, true) }) (v := undef) rfl (by kernel_rfl) (by kernel_rfl) (by kernel_rfl) (fun _ _ _ h => h) (Or.inr ⟨by rfl, rfl⟩) (by assumption) ?_
      try simp only [Act.put, List.setIfInBounds_toArray, List.set_cons_zero, List.set_cons_succ]
      refine wpAnyH_take (i := 25) (oi := { dst := some 36, op := .load 3 (.tmp 35), type := 3, pos := "steps.go:63", after := #[{ on := 24, ground := .data }, { on := 21, ground := .guard }], guard := some (21, true) }) (v := undef) rfl (by kernel_rfl) (by kernel_rfl) (by kernel_rfl) (fun _ _ _ h => h) (Or.inr ⟨by rfl, rfl⟩) (by assumption) ?_
      try simp only [Act.put, List.setIfInBounds_toArray, List.set_cons_zero, List.set_cons_succ]
      refine wpAnyH_take (i := 26) (oi := { dst := some 37, op := .call { callee := .value (.func 55), args := #[.tmp 33, .tmp 34, .tmp 36], argTypes := #[24, 29, 3] }, type := 4, pos := "steps.go:63", after := #[{ on := 22, ground := .data }, { on := 23, ground := .data }, { on := 25, ground := .data }, { on := 21, ground := .chain }, { on := 21, ground := .guard }], guard := some (21, true) }) (v := undef) rfl (by kernel_rfl) (by kernel_rfl) (by kernel_rfl) (fun _ _ _ h => h) (Or.inr ⟨by rfl, rfl⟩) (by assumption) ?_
      try simp only [Act.put, List.setIfInBounds_toArray, List.set_cons_zero, List.set_cons_succ]
      refine wpAnyH_take (i := 27) (oi := { dst := some 38, op := .pick (.tmp 32) (.tmp 37) (.const (.bool false)), type := 4, pos := "steps.go:63", after := #[{ on := 21, ground := .data }, { on := 26, ground := .data }], guard := none }) (v := ?_) rfl (by kernel_rfl) (by kernel_rfl) (by kernel_rfl) (fun _ _ _ h => h) (Or.inl ⟨by rfl, ?_⟩) (by assumption) ?_
      rotate_left
      · intro w hSw
        go_simp
        first | done | with_reducible rfl
      try simp only [Act.put, List.setIfInBounds_toArray, List.set_cons_zero, List.set_cons_succ]
      refine wpAnyH_take (i := 28) (oi := { dst := some 6, op := .assign (.tmp 38), type := 4, pos := "steps.go:63", after := #[{ on := 27, ground := .data }, { on := 26, ground := .chain }, { on := 0, ground := .phase }, { on := 1, ground := .phase }, { on := 2, ground := .phase }, { on := 3, ground := .phase }, { on := 4, ground := .phase }, { on := 5, ground := .phase }, { on := 6, ground := .phase }, { on := 7, ground := .phase }, { on := 8, ground := .phase }, { on := 9, ground := .phase }, { on := 10, ground := .phase }, { on := 11, ground := .phase }, { on := 12, ground := .phase }, { on := 13, ground := .phase }, { on := 14, ground := .phase }, { on := 15, ground := .phase }, { on := 16, ground := .phase }, { on := 17, ground := .phase }, { on := 18, ground := .phase }, { on := 19, ground := .phase }, { on := 20, ground := .phase }, { on := 21, ground := .phase }, { on := 22, ground := .phase }, { on := 23, ground := .phase }, { on := 24, ground := .phase }, { on := 25, ground := .phase }, { on := 26, ground := .phase }, { on := 27, ground := .phase }], guard := none }) (v := ?_) rfl (by kernel_rfl) (by kernel_rfl) (by kernel_rfl) (fun _ _ _ h => h) (Or.inl ⟨by rfl, ?_⟩) (by assumption) ?_
      rotate_left
      · intro w hSw
        go_simp
        first | done | with_reducible rfl
      try simp only [Act.put, List.setIfInBounds_toArray, List.set_cons_zero, List.set_cons_succ]
      refine wpAnyH_done (by kernel_rfl) ?_ _
      go_wp2
      go_ret
      exact ⟨rfl, grow_trans hW.out BW.out⟩

    | false =>
      have HRR : Hid (RR = allRd sh l S n) := by show _ = _; rw [HM.out, eP, eQ]; rfl
      clear HM
      have CA : Hid (∀ w1, Below W.heap.size W w1 → Calls Tryz.prog 54 #[.agg #[.int .i64 sh, .slice la l.length lc], .int .i64 n] w1 fun e w' => ∃ b3 o3 c3, e = .returned (.slice (some ⟨b3, o3, none⟩) sh c3) ∧ w'.cell? ⟨b3, o3 + k, none⟩ = some (.bool true) ∧ Below w1.heap.size w1 w') := fun w1 hb => by
        refine (activeOf_any la lc l sh n _ (HL.out.below hb) (hp n hn)).mono ?_
        rintro e w2 ⟨a, c, rfl, hbs, hb2⟩
        have hL := marks_len sh (setsIn (locksAt l n))
        obtain ⟨b3, o3, rfl, _, d3⟩ := hbs k (by rw [hL]; exact hk)
        refine ⟨b3, o3, c, by rw [hL], ?_, hb2⟩
        exact d3.trans (congrArg (fun x => some (Value.bool x)) HP.out)
      obtain ⟨b6, o6, b7, o7, c7, e6, _, _, z6, z7⟩ := HS.out.wr.rows hF.wr hF.wn h0 n hn
      have z7 := z7 k hk
      rw [eQ] at z7
      rw [e6, hF.wr] at q2
      have KS : Hid (∀ w', Below W.heap.size W w' → w'.cell? ⟨w.heap.size, 0, none⟩ = some (.int .i64 (sh : Int)) ∧ w'.cell? ⟨w.heap.size, 1, none⟩ = some (.slice la l.length lc) ∧ w'.cell? ⟨w.heap.size + 1, 0, none⟩ = some (.slice sa S.st.length sc) ∧ w'.cell? ⟨w.heap.size + 1, 1, none⟩ = some (.slice ra S.rd.length rc) ∧ w'.cell? ⟨w.heap.size + 1, 2, none⟩ = some (.slice (some ⟨b6, o6, none⟩) l.length tc) ∧ w'.cell? ⟨w.heap.size + 1, 3, none⟩ = some (.slice va S.vs.length vc) ∧ w'.cell? ⟨w.heap.size + 2, 1, none⟩ = some (.int .i64 (n : Int)) ∧ w'.cell? ⟨w.heap.size + 2, 2, none⟩ = some (.int .i64 (k : Int)) ∧ w'.cell? ⟨b6, o6 + n, none⟩ = some (.slice (some ⟨b7, o7, none⟩) sh c7) ∧ w'.cell? ⟨b7, o7 + k, none⟩ = some (.bool false) ∧ Hid (Below W.heap.size W w')) := fun w' hb => ⟨ext_cell hb p0, ext_cell hb p1, ext_cell hb q0, ext_cell hb q1, ext_cell hb q2, ext_cell hb q3, ext_cell hb r1, ext_cell hb r2, ext_cell hb z6, ext_cell hb z7, hb⟩
      have CR : Hid (∀ w1, Below W.heap.size W w1 → Calls Tryz.prog 55 #[.agg #[.int .i64 (sh : Int), .slice la l.length lc], .agg #[.slice sa S.st.length sc, .slice ra S.rd.length rc, .slice (some ⟨b6, o6, none⟩) l.length tc, .slice va S.vs.length vc], .int .i64 n] w1 fun e w' => e = .returned (.bool RR) ∧ Below w1.heap.size w1 w') := fun w1 hb => by
        rw [HRR.out]
        have h := docAllRead_any la lc l sa ra wa va sc rc tc vc S sh n w1 (HL.out.below hb) (HS.out.below hb) (hp n hn) hF hn h8 h0 h4
        rw [e6, hF.wr] at h
        exact h
      clear HP HS HL hF hp KEEP h8 h4 h0 p0 p1 q0 q1 q2 q3 r0 r1 r2 z6 z7 e6
      clear HRR
      refine wp_region_held_drew (S := (fun w' => w'.cell? ⟨w.heap.size, 0, none⟩ = some (.int .i64 (sh : Int)) ∧ w'.cell? ⟨w.heap.size, 1, none⟩ = some (.slice la l.length lc) ∧ w'.cell? ⟨w.heap.size + 1, 0, none⟩ = some (.slice sa S.st.length sc) ∧ w'.cell? ⟨w.heap.size + 1, 1, none⟩ = some (.slice ra S.rd.length rc) ∧ w'.cell? ⟨w.heap.size + 1, 2, none⟩ = some (.slice (some ⟨b6, o6, none⟩) l.length tc) ∧ w'.cell? ⟨w.heap.size + 1, 3, none⟩ = some (.slice va S.vs.length vc) ∧ w'.cell? ⟨w.heap.size + 2, 1, none⟩ = some (.int .i64 (n : Int)) ∧ w'.cell? ⟨w.heap.size + 2, 2, none⟩ = some (.int .i64 (k : Int)) ∧ w'.cell? ⟨b6, o6 + n, none⟩ = some (.slice (some ⟨b7, o7, none⟩) sh c7) ∧ w'.cell? ⟨b7, o7 + k, none⟩ = some (.bool false) ∧ Hid (Below W.heap.size W w'))) (by kernel_rfl) ?_ (fun hHeld => ?_)
      · refine KS.out _ ?_
        exact grow_drew (Below.refl _ _)
      refine wpAnyH_take (i := 0) (oi := { dst := some 11, op := .load 24 (.tmp 3), type := 24, pos := "steps.go:63", after := #[], guard := none }) (v := ?_) rfl (by kernel_rfl) (by kernel_rfl) (by kernel_rfl) (fun _ _ _ h => h) (Or.inl ⟨by rfl, ?_⟩) (by assumption) ?_
      rotate_left
      · intro w hSw
        go_simp
        first | done | with_reducible rfl
      try simp only [Act.put, List.setIfInBounds_toArray, List.set_cons_zero, List.set_cons_succ]
      refine wpAnyH_take (i := 1) (oi := { dst := some 12, op := .fieldAddr 48 (.tmp 5) 1, type := 0, pos := "steps.go:63", after := #[], guard := none }) (v := ?_) rfl (by kernel_rfl) (by kernel_rfl) (by kernel_rfl) (fun _ _ _ h => h) (Or.inl ⟨by rfl, ?_⟩) (by assumption) ?_
      rotate_left
      · intro w hSw
        go_simp
        first | done | with_reducible rfl
      try simp only [Act.put, List.setIfInBounds_toArray, List.set_cons_zero, List.set_cons_succ]
      refine wpAnyH_take (i := 2) (oi := { dst := some 13, op := .load 3 (.tmp 12), type := 3, pos := "steps.go:63", after := #[{ on := 1, ground := .data }], guard := none }) (v := ?_) rfl (by kernel_rfl) (by kernel_rfl) (by kernel_rfl) (fun _ _ _ h => h) (Or.inl ⟨by rfl, ?_⟩) (by assumption) ?_
      rotate_left
      · intro w hSw
        go_simp
        first | done | with_reducible rfl
      try simp only [Act.put, List.setIfInBounds_toArray, List.set_cons_zero, List.set_cons_succ]
      refine wpAnyH_take (i := 4) (oi := { dst := some 15, op := .fieldAddr 48 (.tmp 5) 2, type := 0, pos := "steps.go:63", after := #[], guard := none }) (v := ?_) rfl (by kernel_rfl) (by kernel_rfl) (by kernel_rfl) (fun _ _ _ h => h) (Or.inl ⟨by rfl, ?_⟩) (by assumption) ?_
      rotate_left
      · intro w hSw
        go_simp
        first | done | with_reducible rfl
      try simp only [Act.put, List.setIfInBounds_toArray, List.set_cons_zero, List.set_cons_succ]
      refine wpAnyH_take (i := 5) (oi := { dst := some 16, op := .load 3 (.tmp 15), type := 3, pos := "steps.go:63", after := #[{ on := 4, ground := .data }], guard := none }) (v := ?_) rfl (by kernel_rfl) (by kernel_rfl) (by kernel_rfl) (fun _ _ _ h => h) (Or.inl ⟨by rfl, ?_⟩) (by assumption) ?_
      rotate_left
      · intro w hSw
        go_simp
        first | done | with_reducible rfl
      try simp only [Act.put, List.setIfInBounds_toArray, List.set_cons_zero, List.set_cons_succ]
      refine wpAnyH_ready (rs := [3]) (by kernel_rfl) (by simp) ?_
      refine AllReadyH.cons (o := { dst := some 14, op := .call { callee := .value (.func 54), args := #[.tmp 11, .tmp 13], argTypes := #[24, 3] }, type := 65, pos := "steps.go:63", after := #[{ on := 0, ground := .data }, { on := 2, ground := .data }], guard := none }) rfl (fun K hK => ?_) AllReadyH.nil
      go_simp
      go_wp2_with (go_at_call 54; refine (CA.out _ (grow_drew (Below.refl _ _))).mono ?_; rintro e w1 ⟨b3, o3, c3, rfl, d3, hb1⟩)
      have BW : Hid (Below W.heap.size W w1) := grow_trans (grow_drew (Below.refl _ _)) hb1
      clear hHeld
      refine hK.out _ _ (KS.out _ BW.out) (fun hHeld => ?_)
      clear hK K
      refine wpAnyH_take (i := 6) (oi := { dst := some 17, op := .indexAddr 65 (.tmp 14) (.tmp 16), type := 0, pos := "steps.go:63", after := #[{ on := 3, ground := .data }, { on := 5, ground := .data }], guard := none }) (v := ?_) rfl (by kernel_rfl) (by kernel_rfl) (by kernel_rfl) (fun _ _ _ h => h) (Or.inl ⟨by rfl, ?_⟩) (by assumption) ?_
      rotate_left
      · intro w hSw
        go_simp
        first | done | with_reducible rfl
      try simp only [Act.put, List.setIfInBounds_toArray, List.set_cons_zero, List.set_cons_succ]
      refine wpAnyH_ready (rs := [7]) (by kernel_rfl) (by simp) ?_
      refine AllReadyH.cons (o := { dst := some 18, op := .load 4 (.tmp 17), type := 4, pos := "steps.go:63", after := #[{ on := 6, ground := .data }], guard := none }) rfl (fun K hK => ?_) AllReadyH.nil
      go_simp
      skip
      clear hHeld
      refine hK.out _ _ (KS.out _ BW.out) (fun hHeld => ?_)
      clear hK K
      refine wpAnyH_take (i := 8) (oi := { dst := some 19, op := .move (.tmp 18), type := 4, pos := "steps.go:63", after := #[{ on := 7, ground := .data }, { on := 3, ground := .chain }], guard := none }) (v := ?_) rfl (by kernel_rfl) (by kernel_rfl) (by kernel_rfl) (fun _ _ _ h => h) (Or.inl ⟨by rfl, ?_⟩) (by assumption) ?_
      rotate_left
      · intro w hSw
        go_simp
        first | done | with_reducible rfl
      try simp only [Act.put, List.setIfInBounds_toArray, List.set_cons_zero, List.set_cons_succ]
      refine wpAnyH_take (i := 9) (oi := { dst := some 20, op := .fieldAddr 29 (.tmp 4) 2, type := 0, pos := "steps.go:63", after := #[{ on := 8, ground := .guard }], guard := some (8, true) }) (v := ?_) rfl (by kernel_rfl) (by kernel_rfl) (by kernel_rfl) (fun _ _ _ h => h) (Or.inl ⟨by rfl, ?_⟩) (by assumption) ?_
      rotate_left
      · intro w hSw
        go_simp
        first | done | with_reducible rfl
      try simp only [Act.put, List.setIfInBounds_toArray, List.set_cons_zero, List.set_cons_succ]
      refine wpAnyH_take (i := 10) (oi := { dst := some 21, op := .load 26 (.tmp 20), type := 26, pos := "steps.go:63", after := #[{ on := 9, ground := .data }, { on := 8, ground := .guard }], guard := some (8, true) }) (v := ?_) rfl (by kernel_rfl) (by kernel_rfl) (by kernel_rfl) (fun _ _ _ h => h) (Or.inl ⟨by rfl, ?_⟩) (by assumption) ?_
      rotate_left
      · intro w hSw
        go_simp
        first | done | with_reducible rfl
      try simp only [Act.put, List.setIfInBounds_toArray, List.set_cons_zero, List.set_cons_succ]
      refine wpAnyH_take (i := 11) (oi := { dst := some 22, op := .fieldAddr 48 (.tmp 5) 1, type := 0, pos := "steps.go:63", after := #[{ on := 8, ground := .guard }], guard := some (8, true) }) (v := ?_) rfl (by kernel_rfl) (by kernel_rfl) (by kernel_rfl) (fun _ _ _ h => h) (Or.inl ⟨by rfl, ?_⟩) (by assumption) ?_
      rotate_left
      · intro w hSw
        go_simp
        first | done | with_reducible rfl
      try simp only [Act.put, List.setIfInBounds_toArray, List.set_cons_zero, List.set_cons_succ]
      refine wpAnyH_take (i := 12) (oi := { dst := some 23, op := .load 3 (.tmp 22), type := 3, pos := "steps.go:63", after := #[{ on := 11, ground := .data }, { on := 8, ground := .guard }], guard := some (8, true) }) (v := ?_) rfl (by kernel_rfl) (by kernel_rfl) (by kernel_rfl) (fun _ _ _ h => h) (Or.inl ⟨by rfl, ?_⟩) (by assumption) ?_
      rotate_left
      · intro w hSw
        go_simp
        first | done | with_reducible rfl
      try simp only [Act.put, List.setIfInBounds_toArray, List.set_cons_zero, List.set_cons_succ]
      refine wpAnyH_take (i := 13) (oi := { dst := some 24, op := .indexAddr 26 (.tmp 21) (.tmp 23), type := 0, pos := "steps.go:63", after := #[{ on := 10, ground := .data }, { on := 12, ground := .data }, { on := 8, ground := .guard }], guard := some (8, true) }) (v := ?_) rfl (by kernel_rfl) (by kernel_rfl) (by kernel_rfl) (fun _ _ _ h => h) (Or.inl ⟨by rfl, ?_⟩) (by assumption) ?_
      rotate_left
      · intro w hSw
        go_simp
        first | done | with_reducible rfl
      try simp only [Act.put, List.setIfInBounds_toArray, List.set_cons_zero, List.set_cons_succ]
      refine wpAnyH_take (i := 14) (oi := { dst := some 25, op := .load 65 (.tmp 24), type := 65, pos := "steps.go:63", after := #[{ on := 13, ground := .data }, { on := 8, ground := .guard }], guard := some (8, true) }) (v := ?_) rfl (by kernel_rfl) (by kernel_rfl) (by kernel_rfl) (fun _ _ _ h => h) (Or.inl ⟨by rfl, ?_⟩) (by assumption) ?_
      rotate_left
      · intro w hSw
        go_simp
        first | done | with_reducible rfl
      try simp only [Act.put, List.setIfInBounds_toArray, List.set_cons_zero, List.set_cons_succ]
      refine wpAnyH_take (i := 15) (oi := { dst := some 26, op := .fieldAddr 48 (.tmp 5) 2, type := 0, pos := "steps.go:63", after := #[{ on := 8, ground := .guard }], guard := some (8, true) }) (v := ?_) rfl (by kernel_rfl) (by kernel_rfl) (by kernel_rfl) (fun _ _ _ h => h) (Or.inl ⟨by rfl, ?_⟩) (by assumption) ?_
      rotate_left
      · intro w hSw
        go_simp
        first | done | with_reducible rfl
      try simp only [Act.put, List.setIfInBounds_toArray, List.set_cons_zero, List.set_cons_succ]
      refine wpAnyH_take (i := 16) (oi := { dst := some 27, op := .load 3 (.tmp 26), type := 3, pos := "steps.go:63", after := #[{ on := 15, ground := .data }, { on := 8, ground := .guard }], guard := some (8, true) }) (v := ?_) rfl (by kernel_rfl) (by kernel_rfl) (by kernel_rfl) (fun _ _ _ h => h) (Or.inl ⟨by rfl, ?_⟩) (by assumption) ?_
      rotate_left
      · intro w hSw
        go_simp
        first | done | with_reducible rfl
      try simp only [Act.put, List.setIfInBounds_toArray, List.set_cons_zero, List.set_cons_succ]
      refine wpAnyH_take (i := 17) (oi := { dst := some 28, op := .indexAddr 65 (.tmp 25) (.tmp 27), type := 0, pos := "steps.go:63", after := #[{ on := 14, ground := .data }, { on := 16, ground := .data }, { on := 8, ground := .guard }], guard := some (8, true) }) (v := ?_) rfl (by kernel_rfl) (by kernel_rfl) (by kernel_rfl) (fun _ _ _ h => h) (Or.inl ⟨by rfl, ?_⟩) (by assumption) ?_
      rotate_left
      · intro w hSw
        go_simp
        first | done | with_reducible rfl
      try simp only [Act.put, List.setIfInBounds_toArray, List.set_cons_zero, List.set_cons_succ]
      refine wpAnyH_take (i := 18) (oi := { dst := some 29, op := .load 4 (.tmp 28), type := 4, pos := "steps.go:63", after := #[{ on := 17, ground := .data }, { on := 8, ground := .guard }], guard := some (8, true) }) (v := ?_) rfl (by kernel_rfl) (by kernel_rfl) (by kernel_rfl) (fun _ _ _ h => h) (Or.inl ⟨by rfl, ?_⟩) (by assumption) ?_
      rotate_left
      · intro w hSw
        go_simp
        first | done | with_reducible rfl
      try simp only [Act.put, List.setIfInBounds_toArray, List.set_cons_zero, List.set_cons_succ]
      refine wpAnyH_take (i := 19) (oi := { dst := some 30, op := .unOp .not 4 (.tmp 29), type := 4, pos := "steps.go:63", after := #[{ on := 18, ground := .data }, { on := 8, ground := .guard }], guard := some (8, true) }) (v := ?_) rfl (by kernel_rfl) (by kernel_rfl) (by kernel_rfl) (fun _ _ _ h => h) (Or.inl ⟨by rfl, ?_⟩) (by assumption) ?_
      rotate_left
      · intro w hSw
        go_simp
        first | done | with_reducible rfl
      try simp only [Act.put, List.setIfInBounds_toArray, List.set_cons_zero, List.set_cons_succ]
      refine wpAnyH_take (i := 20) (oi := { dst := some 31, op := .pick (.tmp 19) (.tmp 30) (.const (.bool false)), type := 4, pos := "steps.go:63", after := #[{ on := 8, ground := .data }, { on := 19, ground := .data }], guard := none }) (v := ?_) rfl (by kernel_rfl) (by kernel_rfl) (by kernel_rfl) (fun _ _ _ h => h) (Or.inl ⟨by rfl, ?_⟩) (by assumption) ?_
      rotate_left
      · intro w hSw
        go_simp
        first | done | with_reducible rfl
      try simp only [Act.put, List.setIfInBounds_toArray, List.set_cons_zero, List.set_cons_succ]
      refine wpAnyH_take (i := 21) (oi := { dst := some 32, op := .move (.tmp 31), type := 4, pos := "steps.go:63", after := #[{ on := 20, ground := .data }, { on := 8, ground := .chain }], guard := none }) (v := ?_) rfl (by kernel_rfl) (by kernel_rfl) (by kernel_rfl) (fun _ _ _ h => h) (Or.inl ⟨by rfl, ?_⟩) (by assumption) ?_
      rotate_left
      · intro w hSw
        go_simp
        first | done | with_reducible rfl
      try simp only [Act.put, List.setIfInBounds_toArray, List.set_cons_zero, List.set_cons_succ]
      refine wpAnyH_take (i := 22) (oi := { dst := some 33, op := .load 24 (.tmp 3), type := 24, pos := "steps.go:63", after := #[{ on := 21, ground := .guard }], guard := some (21, true) }) (v := ?_) rfl (by kernel_rfl) (by kernel_rfl) (by kernel_rfl) (fun _ _ _ h => h) (Or.inl ⟨by rfl, ?_⟩) (by assumption) ?_
      rotate_left
      · intro w hSw
        go_simp
        first | done | with_reducible rfl
      try simp only [Act.put, List.setIfInBounds_toArray, List.set_cons_zero, List.set_cons_succ]
      refine wpAnyH_take (i := 23) (oi := { dst := some 34, op := .load 29 (.tmp 4), type := 29, pos := "steps.go:63", after := #[{ on := 21, ground := .guard }], guard := some (21, true) }) (v := ?_) rfl (by kernel_rfl) (by kernel_rfl) (by kernel_rfl) (fun _ _ _ h => h) (Or.inl ⟨by rfl, ?_⟩) (by assumption) ?_
      rotate_left
      · intro w hSw
        go_simp
        first | done | with_reducible rfl
      try simp only [Act.put, List.setIfInBounds_toArray, List.set_cons_zero, List.set_cons_succ]
      refine wpAnyH_take (i := 24) (oi := { dst := some 35, op := .fieldAddr 48 (.tmp 5) 1, type := 0, pos := "steps.go:63", after := #[{ on := 21, ground := .guard }], guard := some (21, true) }) (v := ?_) rfl (by kernel_rfl) (by kernel_rfl) (by kernel_rfl) (fun _ _ _ h => h) (Or.inl ⟨by rfl, ?_⟩) (by assumption) ?_
      rotate_left
      · intro w hSw
        go_simp
        first | done | with_reducible rfl
      try simp only [Act.put, List.setIfInBounds_toArray, List.set_cons_zero, List.set_cons_succ]
      refine wpAnyH_take (i := 25) (oi := { dst := some 36, op := .load 3 (.tmp 35), type := 3, pos := "steps.go:63", after := #[{ on := 24, ground := .data }, { on := 21, ground := .guard }], guard := some (21, true) }) (v := ?_) rfl (by kernel_rfl) (by kernel_rfl) (by kernel_rfl) (fun _ _ _ h => h) (Or.inl ⟨by rfl, ?_⟩) (by assumption) ?_
      rotate_left
      · intro w hSw
        go_simp
        first | done | with_reducible rfl
      try simp only [Act.put, List.setIfInBounds_toArray, List.set_cons_zero, List.set_cons_succ]
      refine wpAnyH_ready (rs := [26]) (by kernel_rfl) (by simp) ?_
      refine AllReadyH.cons (o := { dst := some 37, op := .call { callee := .value (.func 55), args := #[.tmp 33, .tmp 34, .tmp 36], argTypes := #[24, 29, 3] }, type := 4, pos := "steps.go:63", after := #[{ on := 22, ground := .data }, { on := 23, ground := .data }, { on := 25, ground := .data }, { on := 21, ground := .chain }, { on := 21, ground := .guard }], guard := some (21, true) }) rfl (fun K hK => ?_) AllReadyH.nil
      go_simp
      go_wp2_with (go_at_call 55; refine (CR.out _ BW.out).mono ?_; rintro e w2 ⟨rfl, hb2⟩)
      have BW2 : Hid (Below W.heap.size W w2) := grow_trans BW.out hb2
      clear hHeld
      refine hK.out _ _ (KS.out _ BW2.out) (fun hHeld => ?_)
      clear hK K
      refine wpAnyH_take (i := 27) (oi := { dst := some 38, op := .pick (.tmp 32) (.tmp 37) (.const (.bool false)), type := 4, pos := "steps.go:63", after := #[{ on := 21, ground := .data }, { on := 26, ground := .data }], guard := none }) (v := ?_) rfl (by kernel_rfl) (by kernel_rfl) (by kernel_rfl) (fun _ _ _ h => h) (Or.inl ⟨by rfl, ?_⟩) (by assumption) ?_
      rotate_left
      · intro w hSw
        go_simp
        first | done | with_reducible rfl
      try simp only [Act.put, List.setIfInBounds_toArray, List.set_cons_zero, List.set_cons_succ]
      refine wpAnyH_take (i := 28) (oi := { dst := some 6, op := .assign (.tmp 38), type := 4, pos := "steps.go:63", after := #[{ on := 27, ground := .data }, { on := 26, ground := .chain }, { on := 0, ground := .phase }, { on := 1, ground := .phase }, { on := 2, ground := .phase }, { on := 3, ground := .phase }, { on := 4, ground := .phase }, { on := 5, ground := .phase }, { on := 6, ground := .phase }, { on := 7, ground := .phase }, { on := 8, ground := .phase }, { on := 9, ground := .phase }, { on := 10, ground := .phase }, { on := 11, ground := .phase }, { on := 12, ground := .phase }, { on := 13, ground := .phase }, { on := 14, ground := .phase }, { on := 15, ground := .phase }, { on := 16, ground := .phase }, { on := 17, ground := .phase }, { on := 18, ground := .phase }, { on := 19, ground := .phase }, { on := 20, ground := .phase }, { on := 21, ground := .phase }, { on := 22, ground := .phase }, { on := 23, ground := .phase }, { on := 24, ground := .phase }, { on := 25, ground := .phase }, { on := 26, ground := .phase }, { on := 27, ground := .phase }], guard := none }) (v := ?_) rfl (by kernel_rfl) (by kernel_rfl) (by kernel_rfl) (fun _ _ _ h => h) (Or.inl ⟨by rfl, ?_⟩) (by assumption) ?_
      rotate_left
      · intro w hSw
        go_simp
        first | done | with_reducible rfl
      try simp only [Act.put, List.setIfInBounds_toArray, List.set_cons_zero, List.set_cons_succ]
      refine wpAnyH_done (by kernel_rfl) ?_ _
      go_wp2
      go_ret
      exact ⟨rfl, grow_trans hW.out BW2.out⟩

set_option maxRecDepth 100000 in
set_option maxHeartbeats 20000000 in
/-- The document's may, of a step that reads. -/
theorem docMay_read (sh n k : Nat) (w : World) (hl : IsTxs w la l) (hs : Sta w sa ra wa va S) (hp : ∀ a, a < l.length → pnE sh l a = 0) (hF : Form sh l S) (hn : n < l.length) (h8 : l.length ≤ 8) (hk : k < sh) (h4 : sh ≤ 4) :
    Calls Tryz.prog 65 #[.agg #[.int .i64 (sh : Int), .slice la l.length lc], .agg #[.slice sa S.st.length sc, .slice ra S.rd.length rc, .slice wa S.wr.length tc, .slice va S.vs.length vc], .agg #[.int .i64 1, .int .i64 n, .int .i64 k]] w fun e w' => e = .returned (.bool (mayB sh l S 1 n k)) ∧ Below w.heap.size w w' := by
  have h0 : 0 < sh := by omega
  have hW : Hid (Below w.heap.size w (((w.alloc (.cells #[.int .i64 (sh : Int), .slice la l.length lc] 24)).alloc (.cells #[.slice sa S.st.length sc, .slice ra S.rd.length rc, .slice wa S.wr.length tc, .slice va S.vs.length vc] 29)).alloc (.cells #[.int .i64 1, .int .i64 (n : Int), .int .i64 (k : Int)] 48))) := (grow_alloc (grow_alloc (grow_alloc (Below.refl _ _) _) _) _)
  have p0 : (((w.alloc (.cells #[.int .i64 (sh : Int), .slice la l.length lc] 24)).alloc (.cells #[.slice sa S.st.length sc, .slice ra S.rd.length rc, .slice wa S.wr.length tc, .slice va S.vs.length vc] 29)).alloc (.cells #[.int .i64 1, .int .i64 (n : Int), .int .i64 (k : Int)] 48)).cell? ⟨w.heap.size, 0, none⟩ = some (.int .i64 (sh : Int)) := ext_cell (grow_alloc (grow_alloc (Below.refl _ _) _) _) (at_new _ _ 24 _ 0 _ (by first | rfl | simp) rfl)
  have p1 : (((w.alloc (.cells #[.int .i64 (sh : Int), .slice la l.length lc] 24)).alloc (.cells #[.slice sa S.st.length sc, .slice ra S.rd.length rc, .slice wa S.wr.length tc, .slice va S.vs.length vc] 29)).alloc (.cells #[.int .i64 1, .int .i64 (n : Int), .int .i64 (k : Int)] 48)).cell? ⟨w.heap.size, 1, none⟩ = some (.slice la l.length lc) := ext_cell (grow_alloc (grow_alloc (Below.refl _ _) _) _) (at_new _ _ 24 _ 1 _ (by first | rfl | simp) rfl)
  have q0 : (((w.alloc (.cells #[.int .i64 (sh : Int), .slice la l.length lc] 24)).alloc (.cells #[.slice sa S.st.length sc, .slice ra S.rd.length rc, .slice wa S.wr.length tc, .slice va S.vs.length vc] 29)).alloc (.cells #[.int .i64 1, .int .i64 (n : Int), .int .i64 (k : Int)] 48)).cell? ⟨w.heap.size + 1, 0, none⟩ = some (.slice sa S.st.length sc) := ext_cell (grow_alloc (Below.refl _ _) _) (at_new _ _ 29 _ 0 _ (by first | rfl | simp) rfl)
  have q1 : (((w.alloc (.cells #[.int .i64 (sh : Int), .slice la l.length lc] 24)).alloc (.cells #[.slice sa S.st.length sc, .slice ra S.rd.length rc, .slice wa S.wr.length tc, .slice va S.vs.length vc] 29)).alloc (.cells #[.int .i64 1, .int .i64 (n : Int), .int .i64 (k : Int)] 48)).cell? ⟨w.heap.size + 1, 1, none⟩ = some (.slice ra S.rd.length rc) := ext_cell (grow_alloc (Below.refl _ _) _) (at_new _ _ 29 _ 1 _ (by first | rfl | simp) rfl)
  have q2 : (((w.alloc (.cells #[.int .i64 (sh : Int), .slice la l.length lc] 24)).alloc (.cells #[.slice sa S.st.length sc, .slice ra S.rd.length rc, .slice wa S.wr.length tc, .slice va S.vs.length vc] 29)).alloc (.cells #[.int .i64 1, .int .i64 (n : Int), .int .i64 (k : Int)] 48)).cell? ⟨w.heap.size + 1, 2, none⟩ = some (.slice wa S.wr.length tc) := ext_cell (grow_alloc (Below.refl _ _) _) (at_new _ _ 29 _ 2 _ (by first | rfl | simp) rfl)
  have q3 : (((w.alloc (.cells #[.int .i64 (sh : Int), .slice la l.length lc] 24)).alloc (.cells #[.slice sa S.st.length sc, .slice ra S.rd.length rc, .slice wa S.wr.length tc, .slice va S.vs.length vc] 29)).alloc (.cells #[.int .i64 1, .int .i64 (n : Int), .int .i64 (k : Int)] 48)).cell? ⟨w.heap.size + 1, 3, none⟩ = some (.slice va S.vs.length vc) := ext_cell (grow_alloc (Below.refl _ _) _) (at_new _ _ 29 _ 3 _ (by first | rfl | simp) rfl)
  have r0 : (((w.alloc (.cells #[.int .i64 (sh : Int), .slice la l.length lc] 24)).alloc (.cells #[.slice sa S.st.length sc, .slice ra S.rd.length rc, .slice wa S.wr.length tc, .slice va S.vs.length vc] 29)).alloc (.cells #[.int .i64 1, .int .i64 (n : Int), .int .i64 (k : Int)] 48)).cell? ⟨w.heap.size + 2, 0, none⟩ = some (.int .i64 1) := ext_cell (Below.refl _ _) (at_new _ _ 48 _ 0 _ (by first | rfl | simp) rfl)
  have r1 : (((w.alloc (.cells #[.int .i64 (sh : Int), .slice la l.length lc] 24)).alloc (.cells #[.slice sa S.st.length sc, .slice ra S.rd.length rc, .slice wa S.wr.length tc, .slice va S.vs.length vc] 29)).alloc (.cells #[.int .i64 1, .int .i64 (n : Int), .int .i64 (k : Int)] 48)).cell? ⟨w.heap.size + 2, 1, none⟩ = some (.int .i64 (n : Int)) := ext_cell (Below.refl _ _) (at_new _ _ 48 _ 1 _ (by first | rfl | simp) rfl)
  have r2 : (((w.alloc (.cells #[.int .i64 (sh : Int), .slice la l.length lc] 24)).alloc (.cells #[.slice sa S.st.length sc, .slice ra S.rd.length rc, .slice wa S.wr.length tc, .slice va S.vs.length vc] 29)).alloc (.cells #[.int .i64 1, .int .i64 (n : Int), .int .i64 (k : Int)] 48)).cell? ⟨w.heap.size + 2, 2, none⟩ = some (.int .i64 (k : Int)) := ext_cell (Below.refl _ _) (at_new _ _ 48 _ 2 _ (by first | rfl | simp) rfl)
  have KEEP : Hid (∀ w', Below (((w.alloc (.cells #[.int .i64 (sh : Int), .slice la l.length lc] 24)).alloc (.cells #[.slice sa S.st.length sc, .slice ra S.rd.length rc, .slice wa S.wr.length tc, .slice va S.vs.length vc] 29)).alloc (.cells #[.int .i64 1, .int .i64 (n : Int), .int .i64 (k : Int)] 48)).heap.size (((w.alloc (.cells #[.int .i64 (sh : Int), .slice la l.length lc] 24)).alloc (.cells #[.slice sa S.st.length sc, .slice ra S.rd.length rc, .slice wa S.wr.length tc, .slice va S.vs.length vc] 29)).alloc (.cells #[.int .i64 1, .int .i64 (n : Int), .int .i64 (k : Int)] 48)) w' → w'.cell? ⟨w.heap.size, 0, none⟩ = some (.int .i64 (sh : Int)) ∧ w'.cell? ⟨w.heap.size, 1, none⟩ = some (.slice la l.length lc) ∧ w'.cell? ⟨w.heap.size + 1, 0, none⟩ = some (.slice sa S.st.length sc) ∧ w'.cell? ⟨w.heap.size + 1, 1, none⟩ = some (.slice ra S.rd.length rc) ∧ w'.cell? ⟨w.heap.size + 1, 2, none⟩ = some (.slice wa S.wr.length tc) ∧ w'.cell? ⟨w.heap.size + 1, 3, none⟩ = some (.slice va S.vs.length vc) ∧ w'.cell? ⟨w.heap.size + 2, 0, none⟩ = some (.int .i64 1) ∧ w'.cell? ⟨w.heap.size + 2, 1, none⟩ = some (.int .i64 (n : Int)) ∧ w'.cell? ⟨w.heap.size + 2, 2, none⟩ = some (.int .i64 (k : Int))) := fun w' hb => ⟨ext_cell hb p0, ext_cell hb p1, ext_cell hb q0, ext_cell hb q1, ext_cell hb q2, ext_cell hb q3, ext_cell hb r0, ext_cell hb r1, ext_cell hb r2⟩
  have HS : Hid (Sta (((w.alloc (.cells #[.int .i64 (sh : Int), .slice la l.length lc] 24)).alloc (.cells #[.slice sa S.st.length sc, .slice ra S.rd.length rc, .slice wa S.wr.length tc, .slice va S.vs.length vc] 29)).alloc (.cells #[.int .i64 1, .int .i64 (n : Int), .int .i64 (k : Int)] 48)) sa ra wa va S) := hs.below hW.out
  have HL : Hid (IsTxs (((w.alloc (.cells #[.int .i64 (sh : Int), .slice la l.length lc] 24)).alloc (.cells #[.slice sa S.st.length sc, .slice ra S.rd.length rc, .slice wa S.wr.length tc, .slice va S.vs.length vc] 29)).alloc (.cells #[.int .i64 1, .int .i64 (n : Int), .int .i64 (k : Int)] 48)) la l) := hl.below hW.out
  have HM : Hid (mayB sh l S 1 n k = (ptB sh (gX l n) k && !at2 S.rd n k && !blkB sh l S n k)) := rfl
  generalize mayB sh l S 1 n k = RR at *
  clear hl hs p0 p1 q0 q1 q2 q3 r0 r1 r2
  go_enter Tryz.func65, Tryz.ntmps65
  go_upto_region 1 with fail
  generalize (((w.alloc (.cells #[.int .i64 (sh : Int), .slice la l.length lc] 24)).alloc (.cells #[.slice sa S.st.length sc, .slice ra S.rd.length rc, .slice wa S.wr.length tc, .slice va S.vs.length vc] 29)).alloc (.cells #[.int .i64 1, .int .i64 (n : Int), .int .i64 (k : Int)] 48)) = W at *
  obtain ⟨p0, p1, q0, q1, q2, q3, r0, r1, r2⟩ := KEEP.out W (Below.refl _ _)
  go_upto_region 3 with fail
  cases eP : ptB sh (gX l n) k with
  | false =>
    have HP : Hid (ptB sh (gX l n) k = false) := eP
    obtain rfl : RR = false := by rw [HM.out, eP]; rfl
    clear HM
    have CA : Hid (∀ w1, Below W.heap.size W w1 → Calls Tryz.prog 53 #[.agg #[.int .i64 sh, .slice la l.length lc], .int .i64 n] w1 fun e w' => ∃ b3 o3 c3, e = .returned (.slice (some ⟨b3, o3, none⟩) sh c3) ∧ w'.cell? ⟨b3, o3 + k, none⟩ = some (.bool false) ∧ Below w1.heap.size w1 w') := fun w1 hb => by
      refine (partOf_any la lc l sh n _ (HL.out.below hb) (hp n hn)).mono ?_
      rintro e w2 ⟨a, c, rfl, hbs, hb2⟩
      have hL := marks_len sh (keysIn (locksAt l n))
      obtain ⟨b3, o3, rfl, _, d3⟩ := hbs k (by rw [hL]; exact hk)
      refine ⟨b3, o3, c, by rw [hL], ?_, hb2⟩
      exact d3.trans (congrArg (fun x => some (Value.bool x)) HP.out)
    have KS : Hid (∀ w', Below W.heap.size W w' → w'.cell? ⟨w.heap.size, 0, none⟩ = some (.int .i64 (sh : Int)) ∧ w'.cell? ⟨w.heap.size, 1, none⟩ = some (.slice la l.length lc) ∧ w'.cell? ⟨w.heap.size + 2, 1, none⟩ = some (.int .i64 (n : Int)) ∧ w'.cell? ⟨w.heap.size + 2, 2, none⟩ = some (.int .i64 (k : Int)) ∧ Hid (Below W.heap.size W w')) := fun w' hb => ⟨ext_cell hb p0, ext_cell hb p1, ext_cell hb r1, ext_cell hb r2, hb⟩
    clear HP HS HL hF hp KEEP h8 h4 h0 p0 p1 q0 q1 q2 q3 r0 r1 r2
    refine wp_region_held_drew (S := (fun w' => w'.cell? ⟨w.heap.size, 0, none⟩ = some (.int .i64 (sh : Int)) ∧ w'.cell? ⟨w.heap.size, 1, none⟩ = some (.slice la l.length lc) ∧ w'.cell? ⟨w.heap.size + 2, 1, none⟩ = some (.int .i64 (n : Int)) ∧ w'.cell? ⟨w.heap.size + 2, 2, none⟩ = some (.int .i64 (k : Int)) ∧ Hid (Below W.heap.size W w'))) (by kernel_rfl) ?_ (fun hHeld => ?_)
    · refine KS.out _ ?_
      exact grow_drew (Below.refl _ _)
    refine wpAnyH_take (i := 0) (oi := { dst := some 39, op := .load 24 (.tmp 3), type := 24, pos := "steps.go:65", after := #[], guard := none }) (v := ?_) rfl (by kernel_rfl) (by kernel_rfl) (by kernel_rfl) (fun _ _ _ h => h) (Or.inl ⟨by rfl, ?_⟩) (by assumption) ?_
    rotate_left
    · intro w hSw
      go_simp
      first | done | with_reducible rfl
    try simp only [Act.put, List.setIfInBounds_toArray, List.set_cons_zero, List.set_cons_succ]
    refine wpAnyH_take (i := 1) (oi := { dst := some 40, op := .fieldAddr 48 (.tmp 5) 1, type := 0, pos := "steps.go:65", after := #[], guard := none }) (v := ?_) rfl (by kernel_rfl) (by kernel_rfl) (by kernel_rfl) (fun _ _ _ h => h) (Or.inl ⟨by rfl, ?_⟩) (by assumption) ?_
    rotate_left
    · intro w hSw
      go_simp
      first | done | with_reducible rfl
    try simp only [Act.put, List.setIfInBounds_toArray, List.set_cons_zero, List.set_cons_succ]
    refine wpAnyH_take (i := 2) (oi := { dst := some 41, op := .load 3 (.tmp 40), type := 3, pos := "steps.go:65", after := #[{ on := 1, ground := .data }], guard := none }) (v := ?_) rfl (by kernel_rfl) (by kernel_rfl) (by kernel_rfl) (fun _ _ _ h => h) (Or.inl ⟨by rfl, ?_⟩) (by assumption) ?_
    rotate_left
    · intro w hSw
      go_simp
      first | done | with_reducible rfl
    try simp only [Act.put, List.setIfInBounds_toArray, List.set_cons_zero, List.set_cons_succ]
    refine wpAnyH_take (i := 4) (oi := { dst := some 43, op := .fieldAddr 48 (.tmp 5) 2, type := 0, pos := "steps.go:65", after := #[], guard := none }) (v := ?_) rfl (by kernel_rfl) (by kernel_rfl) (by kernel_rfl) (fun _ _ _ h => h) (Or.inl ⟨by rfl, ?_⟩) (by assumption) ?_
    rotate_left
    · intro w hSw
      go_simp
      first | done | with_reducible rfl
    try simp only [Act.put, List.setIfInBounds_toArray, List.set_cons_zero, List.set_cons_succ]
    refine wpAnyH_take (i := 5) (oi := { dst := some 44, op := .load 3 (.tmp 43), type := 3, pos := "steps.go:65", after := #[{ on := 4, ground := .data }], guard := none }) (v := ?_) rfl (by kernel_rfl) (by kernel_rfl) (by kernel_rfl) (fun _ _ _ h => h) (Or.inl ⟨by rfl, ?_⟩) (by assumption) ?_
    rotate_left
    · intro w hSw
      go_simp
      first | done | with_reducible rfl
    try simp only [Act.put, List.setIfInBounds_toArray, List.set_cons_zero, List.set_cons_succ]
    refine wpAnyH_ready (rs := [3]) (by kernel_rfl) (by simp) ?_
    refine AllReadyH.cons (o := { dst := some 42, op := .call { callee := .value (.func 53), args := #[.tmp 39, .tmp 41], argTypes := #[24, 3] }, type := 65, pos := "steps.go:65", after := #[{ on := 0, ground := .data }, { on := 2, ground := .data }], guard := none }) rfl (fun K hK => ?_) AllReadyH.nil
    go_simp
    go_wp2_with (go_at_call 53; refine (CA.out _ (grow_drew (Below.refl _ _))).mono ?_; rintro e w1 ⟨b3, o3, c3, rfl, d3, hb1⟩)
    have BW : Hid (Below W.heap.size W w1) := grow_trans (grow_drew (Below.refl _ _)) hb1
    clear hHeld
    refine hK.out _ _ (KS.out _ BW.out) (fun hHeld => ?_)
    clear hK K
    refine wpAnyH_take (i := 6) (oi := { dst := some 45, op := .indexAddr 65 (.tmp 42) (.tmp 44), type := 0, pos := "steps.go:65", after := #[{ on := 3, ground := .data }, { on := 5, ground := .data }], guard := none }) (v := ?_) rfl (by kernel_rfl) (by kernel_rfl) (by kernel_rfl) (fun _ _ _ h => h) (Or.inl ⟨by rfl, ?_⟩) (by assumption) ?_
    rotate_left
    · intro w hSw
      go_simp
      first | done | with_reducible rfl
    try simp only [Act.put, List.setIfInBounds_toArray, List.set_cons_zero, List.set_cons_succ]
    refine wpAnyH_ready (rs := [7]) (by kernel_rfl) (by simp) ?_
    refine AllReadyH.cons (o := { dst := some 46, op := .load 4 (.tmp 45), type := 4, pos := "steps.go:65", after := #[{ on := 6, ground := .data }], guard := none }) rfl (fun K hK => ?_) AllReadyH.nil
    go_simp
    skip
    clear hHeld
    refine hK.out _ _ (KS.out _ BW.out) (fun hHeld => ?_)
    clear hK K
    refine wpAnyH_take (i := 8) (oi := { dst := some 47, op := .unOp .not 4 (.tmp 46), type := 4, pos := "steps.go:65", after := #[{ on := 7, ground := .data }], guard := none }) (v := ?_) rfl (by kernel_rfl) (by kernel_rfl) (by kernel_rfl) (fun _ _ _ h => h) (Or.inl ⟨by rfl, ?_⟩) (by assumption) ?_
    rotate_left
    · intro w hSw
      go_simp
      first | done | with_reducible rfl
    try simp only [Act.put, List.setIfInBounds_toArray, List.set_cons_zero, List.set_cons_succ]
    refine wpAnyH_take (i := 9) (oi := { dst := some 48, op := .move (.tmp 47), type := 4, pos := "steps.go:65", after := #[{ on := 8, ground := .data }, { on := 3, ground := .chain }], guard := none }) (v := ?_) rfl (by kernel_rfl) (by kernel_rfl) (by kernel_rfl) (fun _ _ _ h => h) (Or.inl ⟨by rfl, ?_⟩) (by assumption) ?_
    rotate_left
    · intro w hSw
      go_simp
      first | done | with_reducible rfl
    try simp only [Act.put, List.setIfInBounds_toArray, List.set_cons_zero, List.set_cons_succ]
    refine wpAnyH_take (i := 10) (oi := { dst := some 49, op := .fieldAddr 29 (.tmp 4) 1, type := 0, pos := "steps.go:65", after := #[{ on := 9, ground := .guard }], guard := some (9, false) }) (v := undef) rfl (by kernel_rfl) (by kernel_rfl) (by kernel_rfl) (fun _ _ _ h => h) (Or.inr ⟨by rfl, rfl⟩) (by assumption) ?_
    try simp only [Act.put, List.setIfInBounds_toArray, List.set_cons_zero, List.set_cons_succ]
    refine wpAnyH_take (i := 11) (oi := { dst := some 50, op := .load 26 (.tmp 49), type := 26, pos := "steps.go:65", after := #[{ on := 10, ground := .data }, { on := 9, ground := .guard }], guard := some (9, false) }) (v := undef) rfl (by kernel_rfl) (by kernel_rfl) (by kernel_rfl) (fun _ _ _ h => h) (Or.inr ⟨by rfl, rfl⟩) (by assumption) ?_
    try simp only [Act.put, List.setIfInBounds_toArray, List.set_cons_zero, List.set_cons_succ]
    refine wpAnyH_take (i := 12) (oi := { dst := some 51, op := .fieldAddr 48 (.tmp 5) 1, type := 0, pos := "steps.go:65", after := #[{ on := 9, ground := .guard }], guard := some (9, false) }) (v := undef) rfl (by kernel_rfl) (by kernel_rfl) (by kernel_rfl) (fun _ _ _ h => h) (Or.inr ⟨by rfl, rfl⟩) (by assumption) ?_
    try simp only [Act.put, List.setIfInBounds_toArray, List.set_cons_zero, List.set_cons_succ]
    refine wpAnyH_take (i := 13) (oi := { dst := some 52, op := .load 3 (.tmp 51), type := 3, pos := "steps.go:65", after := #[{ on := 12, ground := .data }, { on := 9, ground := .guard }], guard := some (9, false) }) (v := undef) rfl (by kernel_rfl) (by kernel_rfl) (by kernel_rfl) (fun _ _ _ h => h) (Or.inr ⟨by rfl, rfl⟩) (by assumption) ?_
    try simp only [Act.put, List.setIfInBounds_toArray, List.set_cons_zero, List.set_cons_succ]
    refine wpAnyH_take (i := 14) (oi := { dst := some 53, op := .indexAddr 26 (.tmp 50) (.tmp 52), type := 0, pos := "steps.go:65", after := #[{ on := 11, ground := .data }, { on := 13, ground := .data }, { on := 9, ground := .guard }], guard := some (9, false) }) (v := undef) rfl (by kernel_rfl) (by kernel_rfl) (by kernel_rfl) (fun _ _ _ h => h) (Or.inr ⟨by rfl, rfl⟩) (by assumption) ?_
    try simp only [Act.put, List.setIfInBounds_toArray, List.set_cons_zero, List.set_cons_succ]
    refine wpAnyH_take (i := 15) (oi := { dst := some 54, op := .load 65 (.tmp 53), type := 65, pos := "steps.go:65", after := #[{ on := 14, ground := .data }, { on := 9, ground := .guard }], guard := some (9, false) }) (v := undef) rfl (by kernel_rfl) (by kernel_rfl) (by kernel_rfl) (fun _ _ _ h => h) (Or.inr ⟨by rfl, rfl⟩) (by assumption) ?_
    try simp only [Act.put, List.setIfInBounds_toArray, List.set_cons_zero, List.set_cons_succ]
    refine wpAnyH_take (i := 16) (oi := { dst := some 55, op := .fieldAddr 48 (.tmp 5) 2, type := 0, pos := "steps.go:65", after := #[{ on := 9, ground := .guard }], guard := some (9, false) }) (v := undef) rfl (by kernel_rfl) (by kernel_rfl) (by kernel_rfl) (fun _ _ _ h => h) (Or.inr ⟨by rfl, rfl⟩) (by assumption) ?_
    try simp only [Act.put, List.setIfInBounds_toArray, List.set_cons_zero, List.set_cons_succ]
    refine wpAnyH_take (i := 17) (oi := { dst := some 56, op := .load 3 (.tmp 55), type := 3, pos := "steps.go:65", after := #[{ on := 16, ground := .data }, { on := 9, ground := .guard }], guard := some (9, false) }) (v := undef) rfl (by kernel_rfl) (by kernel_rfl) (by kernel_rfl) (fun _ _ _ h => h) (Or.inr ⟨by rfl, rfl⟩) (by assumption) ?_
    try simp only [Act.put, List.setIfInBounds_toArray, List.set_cons_zero, List.set_cons_succ]
    refine wpAnyH_take (i := 18) (oi := { dst := some 57, op := .indexAddr 65 (.tmp 54) (.tmp 56), type := 0, pos := "steps.go:65", after := #[{ on := 15, ground := .data }, { on := 17, ground := .data }, { on := 9, ground := .guard }], guard := some (9, false) }) (v := undef) rfl (by kernel_rfl) (by kernel_rfl) (by kernel_rfl) (fun _ _ _ h => h) (Or.inr ⟨by rfl, rfl⟩) (by assumption) ?_
    try simp only [Act.put, List.setIfInBounds_toArray, List.set_cons_zero, List.set_cons_succ]
    refine wpAnyH_take (i := 19) (oi := { dst := some 58, op := .load 4 (.tmp 57), type := 4, pos := "steps.go:65", after := #[{ on := 18, ground := .data }, { on := 9, ground := .guard }], guard := some (9, false) }) (v := undef) rfl (by kernel_rfl) (by kernel_rfl) (by kernel_rfl) (fun _ _ _ h => h) (Or.inr ⟨by rfl, rfl⟩) (by assumption) ?_
    try simp only [Act.put, List.setIfInBounds_toArray, List.set_cons_zero, List.set_cons_succ]
    refine wpAnyH_take (i := 20) (oi := { dst := some 59, op := .pick (.tmp 48) (.const (.bool true)) (.tmp 58), type := 4, pos := "steps.go:65", after := #[{ on := 9, ground := .data }, { on := 19, ground := .data }], guard := none }) (v := ?_) rfl (by kernel_rfl) (by kernel_rfl) (by kernel_rfl) (fun _ _ _ h => h) (Or.inl ⟨by rfl, ?_⟩) (by assumption) ?_
    rotate_left
    · intro w hSw
      go_simp
      first | done | with_reducible rfl
    try simp only [Act.put, List.setIfInBounds_toArray, List.set_cons_zero, List.set_cons_succ]
    refine wpAnyH_done (by kernel_rfl) ?_ _
    go_wp2
    go_ret
    exact ⟨rfl, grow_trans hW.out BW.out⟩

  | true =>
    have HP : Hid (ptB sh (gX l n) k = true) := eP
    obtain ⟨Q, eQ⟩ : ∃ Q, at2 S.rd n k = Q := ⟨_, rfl⟩
    have HM2 : Hid (RR = (!Q && !blkB sh l S n k)) := by show _ = _; rw [HM.out, eP, eQ]; rfl
    clear HM
    have CA : Hid (∀ w1, Below W.heap.size W w1 → Calls Tryz.prog 53 #[.agg #[.int .i64 sh, .slice la l.length lc], .int .i64 n] w1 fun e w' => ∃ b3 o3 c3, e = .returned (.slice (some ⟨b3, o3, none⟩) sh c3) ∧ w'.cell? ⟨b3, o3 + k, none⟩ = some (.bool true) ∧ Below w1.heap.size w1 w') := fun w1 hb => by
      refine (partOf_any la lc l sh n _ (HL.out.below hb) (hp n hn)).mono ?_
      rintro e w2 ⟨a, c, rfl, hbs, hb2⟩
      have hL := marks_len sh (keysIn (locksAt l n))
      obtain ⟨b3, o3, rfl, _, d3⟩ := hbs k (by rw [hL]; exact hk)
      refine ⟨b3, o3, c, by rw [hL], ?_, hb2⟩
      exact d3.trans (congrArg (fun x => some (Value.bool x)) HP.out)
    obtain ⟨b6, o6, b7, o7, c7, e6, _, _, z6, z7⟩ := HS.out.rd.rows hF.rd hF.rn h0 n hn
    have z7 := z7 k hk
    rw [eQ] at z7
    rw [e6, hF.rd] at q1
    have KS : Hid (∀ w', Below W.heap.size W w' → w'.cell? ⟨w.heap.size, 0, none⟩ = some (.int .i64 (sh : Int)) ∧ w'.cell? ⟨w.heap.size, 1, none⟩ = some (.slice la l.length lc) ∧ w'.cell? ⟨w.heap.size + 1, 1, none⟩ = some (.slice (some ⟨b6, o6, none⟩) l.length rc) ∧ w'.cell? ⟨w.heap.size + 2, 1, none⟩ = some (.int .i64 (n : Int)) ∧ w'.cell? ⟨w.heap.size + 2, 2, none⟩ = some (.int .i64 (k : Int)) ∧ w'.cell? ⟨b6, o6 + n, none⟩ = some (.slice (some ⟨b7, o7, none⟩) sh c7) ∧ w'.cell? ⟨b7, o7 + k, none⟩ = some (.bool Q) ∧ Hid (Below W.heap.size W w')) := fun w' hb => ⟨ext_cell hb p0, ext_cell hb p1, ext_cell hb q1, ext_cell hb r1, ext_cell hb r2, ext_cell hb z6, ext_cell hb z7, hb⟩
    have RES : Hid (∀ w1, Below W.heap.size W w1 → Below w.heap.size w w1) := fun w1 hb => grow_trans hW.out hb
    go_cut [59] (fun u wx => u = .bool Q ∧ Hid (Below W.heap.size W wx))
    case first =>
      clear HP HS HL hF hp KEEP h8 h4 h0 p0 p1 q0 q1 q2 q3 r0 r1 r2 z6 z7 e6
      refine wp_region_held_drew (S := (fun w' => w'.cell? ⟨w.heap.size, 0, none⟩ = some (.int .i64 (sh : Int)) ∧ w'.cell? ⟨w.heap.size, 1, none⟩ = some (.slice la l.length lc) ∧ w'.cell? ⟨w.heap.size + 1, 1, none⟩ = some (.slice (some ⟨b6, o6, none⟩) l.length rc) ∧ w'.cell? ⟨w.heap.size + 2, 1, none⟩ = some (.int .i64 (n : Int)) ∧ w'.cell? ⟨w.heap.size + 2, 2, none⟩ = some (.int .i64 (k : Int)) ∧ w'.cell? ⟨b6, o6 + n, none⟩ = some (.slice (some ⟨b7, o7, none⟩) sh c7) ∧ w'.cell? ⟨b7, o7 + k, none⟩ = some (.bool Q) ∧ Hid (Below W.heap.size W w'))) (by kernel_rfl) ?_ (fun hHeld => ?_)
      · refine KS.out _ ?_
        exact grow_drew (Below.refl _ _)
      refine wpAnyH_take (i := 0) (oi := { dst := some 39, op := .load 24 (.tmp 3), type := 24, pos := "steps.go:65", after := #[], guard := none }) (v := ?_) rfl (by kernel_rfl) (by kernel_rfl) (by kernel_rfl) (fun _ _ _ h => h) (Or.inl ⟨by rfl, ?_⟩) (by assumption) ?_
      rotate_left
      · intro w hSw
        go_simp
        first | done | with_reducible rfl
      try simp only [Act.put, List.setIfInBounds_toArray, List.set_cons_zero, List.set_cons_succ]
      refine wpAnyH_take (i := 1) (oi := { dst := some 40, op := .fieldAddr 48 (.tmp 5) 1, type := 0, pos := "steps.go:65", after := #[], guard := none }) (v := ?_) rfl (by kernel_rfl) (by kernel_rfl) (by kernel_rfl) (fun _ _ _ h => h) (Or.inl ⟨by rfl, ?_⟩) (by assumption) ?_
      rotate_left
      · intro w hSw
        go_simp
        first | done | with_reducible rfl
      try simp only [Act.put, List.setIfInBounds_toArray, List.set_cons_zero, List.set_cons_succ]
      refine wpAnyH_take (i := 2) (oi := { dst := some 41, op := .load 3 (.tmp 40), type := 3, pos := "steps.go:65", after := #[{ on := 1, ground := .data }], guard := none }) (v := ?_) rfl (by kernel_rfl) (by kernel_rfl) (by kernel_rfl) (fun _ _ _ h => h) (Or.inl ⟨by rfl, ?_⟩) (by assumption) ?_
      rotate_left
      · intro w hSw
        go_simp
        first | done | with_reducible rfl
      try simp only [Act.put, List.setIfInBounds_toArray, List.set_cons_zero, List.set_cons_succ]
      refine wpAnyH_take (i := 4) (oi := { dst := some 43, op := .fieldAddr 48 (.tmp 5) 2, type := 0, pos := "steps.go:65", after := #[], guard := none }) (v := ?_) rfl (by kernel_rfl) (by kernel_rfl) (by kernel_rfl) (fun _ _ _ h => h) (Or.inl ⟨by rfl, ?_⟩) (by assumption) ?_
      rotate_left
      · intro w hSw
        go_simp
        first | done | with_reducible rfl
      try simp only [Act.put, List.setIfInBounds_toArray, List.set_cons_zero, List.set_cons_succ]
      refine wpAnyH_take (i := 5) (oi := { dst := some 44, op := .load 3 (.tmp 43), type := 3, pos := "steps.go:65", after := #[{ on := 4, ground := .data }], guard := none }) (v := ?_) rfl (by kernel_rfl) (by kernel_rfl) (by kernel_rfl) (fun _ _ _ h => h) (Or.inl ⟨by rfl, ?_⟩) (by assumption) ?_
      rotate_left
      · intro w hSw
        go_simp
        first | done | with_reducible rfl
      try simp only [Act.put, List.setIfInBounds_toArray, List.set_cons_zero, List.set_cons_succ]
      refine wpAnyH_ready (rs := [3]) (by kernel_rfl) (by simp) ?_
      refine AllReadyH.cons (o := { dst := some 42, op := .call { callee := .value (.func 53), args := #[.tmp 39, .tmp 41], argTypes := #[24, 3] }, type := 65, pos := "steps.go:65", after := #[{ on := 0, ground := .data }, { on := 2, ground := .data }], guard := none }) rfl (fun K hK => ?_) AllReadyH.nil
      go_simp
      go_wp2_with (go_at_call 53; refine (CA.out _ (grow_drew (Below.refl _ _))).mono ?_; rintro e w1 ⟨b3, o3, c3, rfl, d3, hb1⟩)
      have BW : Hid (Below W.heap.size W w1) := grow_trans (grow_drew (Below.refl _ _)) hb1
      clear hHeld
      refine hK.out _ _ (KS.out _ BW.out) (fun hHeld => ?_)
      clear hK K
      refine wpAnyH_take (i := 6) (oi := { dst := some 45, op := .indexAddr 65 (.tmp 42) (.tmp 44), type := 0, pos := "steps.go:65", after := #[{ on := 3, ground := .data }, { on := 5, ground := .data }], guard := none }) (v := ?_) rfl (by kernel_rfl) (by kernel_rfl) (by kernel_rfl) (fun _ _ _ h => h) (Or.inl ⟨by rfl, ?_⟩) (by assumption) ?_
      rotate_left
      · intro w hSw
        go_simp
        first | done | with_reducible rfl
      try simp only [Act.put, List.setIfInBounds_toArray, List.set_cons_zero, List.set_cons_succ]
      refine wpAnyH_ready (rs := [7]) (by kernel_rfl) (by simp) ?_
      refine AllReadyH.cons (o := { dst := some 46, op := .load 4 (.tmp 45), type := 4, pos := "steps.go:65", after := #[{ on := 6, ground := .data }], guard := none }) rfl (fun K hK => ?_) AllReadyH.nil
      go_simp
      skip
      clear hHeld
      refine hK.out _ _ (KS.out _ BW.out) (fun hHeld => ?_)
      clear hK K
      refine wpAnyH_take (i := 8) (oi := { dst := some 47, op := .unOp .not 4 (.tmp 46), type := 4, pos := "steps.go:65", after := #[{ on := 7, ground := .data }], guard := none }) (v := ?_) rfl (by kernel_rfl) (by kernel_rfl) (by kernel_rfl) (fun _ _ _ h => h) (Or.inl ⟨by rfl, ?_⟩) (by assumption) ?_
      rotate_left
      · intro w hSw
        go_simp
        first | done | with_reducible rfl
      try simp only [Act.put, List.setIfInBounds_toArray, List.set_cons_zero, List.set_cons_succ]
      refine wpAnyH_take (i := 9) (oi := { dst := some 48, op := .move (.tmp 47), type := 4, pos := "steps.go:65", after := #[{ on := 8, ground := .data }, { on := 3, ground := .chain }], guard := none }) (v := ?_) rfl (by kernel_rfl) (by kernel_rfl) (by kernel_rfl) (fun _ _ _ h => h) (Or.inl ⟨by rfl, ?_⟩) (by assumption) ?_
      rotate_left
      · intro w hSw
        go_simp
        first | done | with_reducible rfl
      try simp only [Act.put, List.setIfInBounds_toArray, List.set_cons_zero, List.set_cons_succ]
      refine wpAnyH_take (i := 10) (oi := { dst := some 49, op := .fieldAddr 29 (.tmp 4) 1, type := 0, pos := "steps.go:65", after := #[{ on := 9, ground := .guard }], guard := some (9, false) }) (v := ?_) rfl (by kernel_rfl) (by kernel_rfl) (by kernel_rfl) (fun _ _ _ h => h) (Or.inl ⟨by rfl, ?_⟩) (by assumption) ?_
      rotate_left
      · intro w hSw
        go_simp
        first | done | with_reducible rfl
      try simp only [Act.put, List.setIfInBounds_toArray, List.set_cons_zero, List.set_cons_succ]
      refine wpAnyH_take (i := 11) (oi := { dst := some 50, op := .load 26 (.tmp 49), type := 26, pos := "steps.go:65", after := #[{ on := 10, ground := .data }, { on := 9, ground := .guard }], guard := some (9, false) }) (v := ?_) rfl (by kernel_rfl) (by kernel_rfl) (by kernel_rfl) (fun _ _ _ h => h) (Or.inl ⟨by rfl, ?_⟩) (by assumption) ?_
      rotate_left
      · intro w hSw
        go_simp
        first | done | with_reducible rfl
      try simp only [Act.put, List.setIfInBounds_toArray, List.set_cons_zero, List.set_cons_succ]
      refine wpAnyH_take (i := 12) (oi := { dst := some 51, op := .fieldAddr 48 (.tmp 5) 1, type := 0, pos := "steps.go:65", after := #[{ on := 9, ground := .guard }], guard := some (9, false) }) (v := ?_) rfl (by kernel_rfl) (by kernel_rfl) (by kernel_rfl) (fun _ _ _ h => h) (Or.inl ⟨by rfl, ?_⟩) (by assumption) ?_
      rotate_left
      · intro w hSw
        go_simp
        first | done | with_reducible rfl
      try simp only [Act.put, List.setIfInBounds_toArray, List.set_cons_zero, List.set_cons_succ]
      refine wpAnyH_take (i := 13) (oi := { dst := some 52, op := .load 3 (.tmp 51), type := 3, pos := "steps.go:65", after := #[{ on := 12, ground := .data }, { on := 9, ground := .guard }], guard := some (9, false) }) (v := ?_) rfl (by kernel_rfl) (by kernel_rfl) (by kernel_rfl) (fun _ _ _ h => h) (Or.inl ⟨by rfl, ?_⟩) (by assumption) ?_
      rotate_left
      · intro w hSw
        go_simp
        first | done | with_reducible rfl
      try simp only [Act.put, List.setIfInBounds_toArray, List.set_cons_zero, List.set_cons_succ]
      refine wpAnyH_take (i := 14) (oi := { dst := some 53, op := .indexAddr 26 (.tmp 50) (.tmp 52), type := 0, pos := "steps.go:65", after := #[{ on := 11, ground := .data }, { on := 13, ground := .data }, { on := 9, ground := .guard }], guard := some (9, false) }) (v := ?_) rfl (by kernel_rfl) (by kernel_rfl) (by kernel_rfl) (fun _ _ _ h => h) (Or.inl ⟨by rfl, ?_⟩) (by assumption) ?_
      rotate_left
      · intro w hSw
        go_simp
        first | done | with_reducible rfl
      try simp only [Act.put, List.setIfInBounds_toArray, List.set_cons_zero, List.set_cons_succ]
      refine wpAnyH_take (i := 15) (oi := { dst := some 54, op := .load 65 (.tmp 53), type := 65, pos := "steps.go:65", after := #[{ on := 14, ground := .data }, { on := 9, ground := .guard }], guard := some (9, false) }) (v := ?_) rfl (by kernel_rfl) (by kernel_rfl) (by kernel_rfl) (fun _ _ _ h => h) (Or.inl ⟨by rfl, ?_⟩) (by assumption) ?_
      rotate_left
      · intro w hSw
        go_simp
        first | done | with_reducible rfl
      try simp only [Act.put, List.setIfInBounds_toArray, List.set_cons_zero, List.set_cons_succ]
      refine wpAnyH_take (i := 16) (oi := { dst := some 55, op := .fieldAddr 48 (.tmp 5) 2, type := 0, pos := "steps.go:65", after := #[{ on := 9, ground := .guard }], guard := some (9, false) }) (v := ?_) rfl (by kernel_rfl) (by kernel_rfl) (by kernel_rfl) (fun _ _ _ h => h) (Or.inl ⟨by rfl, ?_⟩) (by assumption) ?_
      rotate_left
      · intro w hSw
        go_simp
        first | done | with_reducible rfl
      try simp only [Act.put, List.setIfInBounds_toArray, List.set_cons_zero, List.set_cons_succ]
      refine wpAnyH_take (i := 17) (oi := { dst := some 56, op := .load 3 (.tmp 55), type := 3, pos := "steps.go:65", after := #[{ on := 16, ground := .data }, { on := 9, ground := .guard }], guard := some (9, false) }) (v := ?_) rfl (by kernel_rfl) (by kernel_rfl) (by kernel_rfl) (fun _ _ _ h => h) (Or.inl ⟨by rfl, ?_⟩) (by assumption) ?_
      rotate_left
      · intro w hSw
        go_simp
        first | done | with_reducible rfl
      try simp only [Act.put, List.setIfInBounds_toArray, List.set_cons_zero, List.set_cons_succ]
      refine wpAnyH_take (i := 18) (oi := { dst := some 57, op := .indexAddr 65 (.tmp 54) (.tmp 56), type := 0, pos := "steps.go:65", after := #[{ on := 15, ground := .data }, { on := 17, ground := .data }, { on := 9, ground := .guard }], guard := some (9, false) }) (v := ?_) rfl (by kernel_rfl) (by kernel_rfl) (by kernel_rfl) (fun _ _ _ h => h) (Or.inl ⟨by rfl, ?_⟩) (by assumption) ?_
      rotate_left
      · intro w hSw
        go_simp
        first | done | with_reducible rfl
      try simp only [Act.put, List.setIfInBounds_toArray, List.set_cons_zero, List.set_cons_succ]
      refine wpAnyH_take (i := 19) (oi := { dst := some 58, op := .load 4 (.tmp 57), type := 4, pos := "steps.go:65", after := #[{ on := 18, ground := .data }, { on := 9, ground := .guard }], guard := some (9, false) }) (v := ?_) rfl (by kernel_rfl) (by kernel_rfl) (by kernel_rfl) (fun _ _ _ h => h) (Or.inl ⟨by rfl, ?_⟩) (by assumption) ?_
      rotate_left
      · intro w hSw
        go_simp
        first | done | with_reducible rfl
      try simp only [Act.put, List.setIfInBounds_toArray, List.set_cons_zero, List.set_cons_succ]
      refine wpAnyH_take (i := 20) (oi := { dst := some 59, op := .pick (.tmp 48) (.const (.bool true)) (.tmp 58), type := 4, pos := "steps.go:65", after := #[{ on := 9, ground := .data }, { on := 19, ground := .data }], guard := none }) (v := ?_) rfl (by kernel_rfl) (by kernel_rfl) (by kernel_rfl) (fun _ _ _ h => h) (Or.inl ⟨by rfl, ?_⟩) (by assumption) ?_
      rotate_left
      · intro w hSw
        go_simp
        first | done | with_reducible rfl
      try simp only [Act.put, List.setIfInBounds_toArray, List.set_cons_zero, List.set_cons_succ]
      refine wpAnyH_done (by kernel_rfl) ?_ _
      go_wp2_with fail
      go_meet
      exact ⟨rfl, BW⟩
    case rest =>
      obtain ⟨rfl, hbc⟩ := hcut
      obtain ⟨V, hren⟩ : ∃ V : World, V = wc := ⟨_, rfl⟩
      subst hren
      have BV : Hid (Below W.heap.size W V) := hbc
      clear hbc KS CA p0 p1 q0 q1 q2 q3 r0 r1 r2 z6 z7 e6
      cases Q with
      | true =>
        obtain rfl : RR = false := HM2.out
        have BF : Hid (Below w.heap.size w V) := RES.out V BV.out
        go_wp2
        go_ret
        exact ⟨rfl, BF.out⟩
      | false =>
        have CG : Hid (∀ a, a < n → ∀ w1, Below W.heap.size W w1 → Calls Tryz.prog 61 #[.agg #[.int .i64 (sh : Int), .slice la l.length lc], .agg #[.slice sa S.st.length sc, .slice ra S.rd.length rc, .slice wa S.wr.length tc, .slice va S.vs.length vc], .int .i64 a, .int .i64 k] w1 fun e w' => e = .returned (.bool (goneB sh l S a k)) ∧ Below w1.heap.size w1 w') := fun a ha w1 hb => docGone_any la lc l sa ra wa va sc rc tc vc S sh a k w1 (HL.out.below hb) (HS.out.below hb) (hp a (by omega)) hF (by omega) hk h4
        have CL : Hid (∀ a, a < n → ∀ w1, Below W.heap.size W w1 → ∃ b off, la = some ⟨b, off, none⟩ ∧ w1.cell? ⟨b, off + a * 3, none⟩ = some (.slice (l.getD a x0).ra (l.getD a x0).rs.length (l.getD a x0).rc) ∧ w1.cell? ⟨b, off + a * 3 + 1, none⟩ = some (.slice (l.getD a x0).ga (l.getD a x0).gs.length (l.getD a x0).gc) ∧ w1.cell? ⟨b, off + a * 3 + 2, none⟩ = some (.slice (l.getD a x0).sa (l.getD a x0).ss.length (l.getD a x0).sc) ∧ w1.cell? ⟨b, off + n * 3, none⟩ = some (.slice (l.getD n x0).ra (l.getD n x0).rs.length (l.getD n x0).rc) ∧ w1.cell? ⟨b, off + n * 3 + 1, none⟩ = some (.slice (l.getD n x0).ga (l.getD n x0).gs.length (l.getD n x0).gc) ∧ w1.cell? ⟨b, off + n * 3 + 2, none⟩ = some (.slice (l.getD n x0).sa (l.getD n x0).ss.length (l.getD n x0).sc) ∧ ∀ w2, Below w1.heap.size w1 w2 → Calls Tryz.prog 107 #[.agg #[.slice (l.getD a x0).ra (l.getD a x0).rs.length (l.getD a x0).rc, .slice (l.getD a x0).ga (l.getD a x0).gs.length (l.getD a x0).gc, .slice (l.getD a x0).sa (l.getD a x0).ss.length (l.getD a x0).sc], .agg #[.slice (l.getD n x0).ra (l.getD n x0).rs.length (l.getD n x0).rc, .slice (l.getD n x0).ga (l.getD n x0).gs.length (l.getD n x0).gc, .slice (l.getD n x0).sa (l.getD n x0).ss.length (l.getD n x0).sc], .int .i64 sh, .int .i64 k] w2 fun e w' => e = .returned (.bool (clK sh (gX l a) (gX l n) k)) ∧ Below w2.heap.size w2 w') := fun a ha w1 hb => by
          obtain ⟨b, off, e1, _, c0, c1, c2, hx⟩ := (HL.out.below hb) a (by omega)
          obtain ⟨b', off', e2, _, d0, d1, d2, hy⟩ := (HL.out.below hb) n hn
          rw [e1] at e2
          cases e2
          exact ⟨b, off, e1, c0, c1, c2, d0, d1, d2, fun w2 hb2 => docClash_sh _ _ sh k h0 h4 w2 (hx.below hb2) (hy.below hb2)⟩
        have hn8 : n < 8 := by omega
        have hsh4 : sh ≤ 4 := h4
        have HB : Hid (∀ a, blkTo sh l S n k (a + 1) = (blkTo sh l S n k a || (!goneB sh l S a k && clK sh (gX l a) (gX l n) k))) := fun a => by
          show _ = _
          unfold blkTo
          rw [List.range_succ, List.any_append]
          simp
        have HBS : Hid (∀ a, a < n → (!goneB sh l S a k && clK sh (gX l a) (gX l n) k) = true → blkB sh l S n k = true) := fun a ha h => by
          unfold blkB blkTo
          rw [List.any_eq_true]
          exact ⟨a, List.mem_range.2 ha, h⟩
        have HBE : Hid (blkTo sh l S n k n = false → blkB sh l S n k = false) := fun h => h
        clear HS HL hp hF HP
        generalize blkB sh l S n k = R at *
        have HM3 : Hid (RR = !R) := HM2.out
        clear HM2
        go_wp2
        go_loopw [7] (fun i wr => ∃ a : Nat, a ≤ n ∧ i = .int .i64 a ∧ Hid (blkTo sh l S n k a = false) ∧ Hid (Below W.heap.size W wr)) (fun i _ => n - (intOf i).toNat)
        case atStart => exact ⟨0, Nat.zero_le _, rfl, rfl, BV⟩
        case round =>
          clear BV
          obtain ⟨a, ha, rfl, hT, BV⟩ := hrel
          obtain ⟨p0, p1, q0, q1, q2, q3, r0, r1, r2⟩ := KEEP.out wr BV.out
          by_cases hlt : a < n
          · have i1 : (a : Int) < (n : Int) := by omega
            have hal : a < l.length := Nat.lt_trans hlt hn
            have hst := HB.out a
            have hsp := HBS.out a hlt
            rw [hT.out, Bool.false_or] at hst
            have CG1 := CG.out a hlt
            obtain ⟨tb, tof, eTl, c0, c1, c2, d0, d1, d2, CL1⟩ := CL.out a hlt wr BV.out
            subst eTl
            have CLH : Hid (∀ w2, Below wr.heap.size wr w2 → Calls Tryz.prog 107 #[.agg #[.slice (l.getD a x0).ra (l.getD a x0).rs.length (l.getD a x0).rc, .slice (l.getD a x0).ga (l.getD a x0).gs.length (l.getD a x0).gc, .slice (l.getD a x0).sa (l.getD a x0).ss.length (l.getD a x0).sc], .agg #[.slice (l.getD n x0).ra (l.getD n x0).rs.length (l.getD n x0).rc, .slice (l.getD n x0).ga (l.getD n x0).gs.length (l.getD n x0).gc, .slice (l.getD n x0).sa (l.getD n x0).ss.length (l.getD n x0).sc], .int .i64 sh, .int .i64 k] w2 fun e w' => e = .returned (.bool (clK sh (gX l a) (gX l n) k)) ∧ Below w2.heap.size w2 w') := CL1
            have CGH : Hid (∀ w1, Below wr.heap.size wr w1 → Calls Tryz.prog 61 #[.agg #[.int .i64 (sh : Int), .slice (some ⟨tb, tof, none⟩) l.length lc], .agg #[.slice sa S.st.length sc, .slice ra S.rd.length rc, .slice wa S.wr.length tc, .slice va S.vs.length vc], .int .i64 a, .int .i64 k] w1 fun e w' => e = .returned (.bool (goneB sh l S a k)) ∧ Below w1.heap.size w1 w') := fun w1 hb => CG1 w1 (grow_trans BV.out hb)
            have HST : Hid (blkTo sh l S n k (a + 1) = (!goneB sh l S a k && clK sh (gX l a) (gX l n) k)) := hst
            have HSP : Hid ((!goneB sh l S a k && clK sh (gX l a) (gX l n) k) = true → R = true) := hsp
            clear CL1 CG1 hst hsp CG CL HB HBS HBE hT KEEP
            generalize goneB sh l S a k = G at *
            generalize clK sh (gX l a) (gX l n) k = C at *
            generalize hxa : l.getD a x0 = xa at *
            generalize hxn : l.getD n x0 = xn at *
            go_upto_region 8 with fail
            have KS : Hid (∀ w', Below wr.heap.size wr w' → w'.cell? ⟨w.heap.size, 0, none⟩ = some (.int .i64 (sh : Int)) ∧ w'.cell? ⟨w.heap.size, 1, none⟩ = some (.slice (some ⟨tb, tof, none⟩) l.length lc) ∧ w'.cell? ⟨w.heap.size + 1, 0, none⟩ = some (.slice sa S.st.length sc) ∧ w'.cell? ⟨w.heap.size + 1, 1, none⟩ = some (.slice ra S.rd.length rc) ∧ w'.cell? ⟨w.heap.size + 1, 2, none⟩ = some (.slice wa S.wr.length tc) ∧ w'.cell? ⟨w.heap.size + 1, 3, none⟩ = some (.slice va S.vs.length vc) ∧ w'.cell? ⟨w.heap.size + 2, 1, none⟩ = some (.int .i64 (n : Int)) ∧ w'.cell? ⟨w.heap.size + 2, 2, none⟩ = some (.int .i64 (k : Int)) ∧ w'.cell? ⟨tb, tof + a * 3, none⟩ = some (.slice xa.ra xa.rs.length xa.rc) ∧ w'.cell? ⟨tb, tof + a * 3 + 1, none⟩ = some (.slice xa.ga xa.gs.length xa.gc) ∧ w'.cell? ⟨tb, tof + a * 3 + 2, none⟩ = some (.slice xa.sa xa.ss.length xa.sc) ∧ w'.cell? ⟨tb, tof + n * 3, none⟩ = some (.slice xn.ra xn.rs.length xn.rc) ∧ w'.cell? ⟨tb, tof + n * 3 + 1, none⟩ = some (.slice xn.ga xn.gs.length xn.gc) ∧ w'.cell? ⟨tb, tof + n * 3 + 2, none⟩ = some (.slice xn.sa xn.ss.length xn.sc) ∧ Hid (Below wr.heap.size wr w')) := fun w' hb => ⟨ext_cell hb p0, ext_cell hb p1, ext_cell hb q0, ext_cell hb q1, ext_cell hb q2, ext_cell hb q3, ext_cell hb r1, ext_cell hb r2, ext_cell hb c0, ext_cell hb c1, ext_cell hb c2, ext_cell hb d0, ext_cell hb d1, ext_cell hb d2, hb⟩
            have RES2 : Hid (∀ w1, Below wr.heap.size wr w1 → Below W.heap.size W w1) := fun w1 hb => grow_trans BV.out hb
            clear p0 p1 q0 q1 q2 q3 r0 r1 r2 c0 c1 c2 d0 d1 d2 BV
            cases G with
            | true =>
              refine wp_region_held_drew (S := (fun w' => w'.cell? ⟨w.heap.size, 0, none⟩ = some (.int .i64 (sh : Int)) ∧ w'.cell? ⟨w.heap.size, 1, none⟩ = some (.slice (some ⟨tb, tof, none⟩) l.length lc) ∧ w'.cell? ⟨w.heap.size + 1, 0, none⟩ = some (.slice sa S.st.length sc) ∧ w'.cell? ⟨w.heap.size + 1, 1, none⟩ = some (.slice ra S.rd.length rc) ∧ w'.cell? ⟨w.heap.size + 1, 2, none⟩ = some (.slice wa S.wr.length tc) ∧ w'.cell? ⟨w.heap.size + 1, 3, none⟩ = some (.slice va S.vs.length vc) ∧ w'.cell? ⟨w.heap.size + 2, 1, none⟩ = some (.int .i64 (n : Int)) ∧ w'.cell? ⟨w.heap.size + 2, 2, none⟩ = some (.int .i64 (k : Int)) ∧ w'.cell? ⟨tb, tof + a * 3, none⟩ = some (.slice xa.ra xa.rs.length xa.rc) ∧ w'.cell? ⟨tb, tof + a * 3 + 1, none⟩ = some (.slice xa.ga xa.gs.length xa.gc) ∧ w'.cell? ⟨tb, tof + a * 3 + 2, none⟩ = some (.slice xa.sa xa.ss.length xa.sc) ∧ w'.cell? ⟨tb, tof + n * 3, none⟩ = some (.slice xn.ra xn.rs.length xn.rc) ∧ w'.cell? ⟨tb, tof + n * 3 + 1, none⟩ = some (.slice xn.ga xn.gs.length xn.gc) ∧ w'.cell? ⟨tb, tof + n * 3 + 2, none⟩ = some (.slice xn.sa xn.ss.length xn.sc) ∧ Hid (Below wr.heap.size wr w'))) (by kernel_rfl) ?_ (fun hHeld => ?_)
              · refine KS.out _ ?_
                exact grow_drew (Below.refl _ _)
              refine wpAnyH_take (i := 0) (oi := { dst := some 66, op := .load 24 (.tmp 3), type := 24, pos := "steps.go:69", after := #[], guard := none }) (v := ?_) rfl (by kernel_rfl) (by kernel_rfl) (by kernel_rfl) (fun _ _ _ h => h) (Or.inl ⟨by rfl, ?_⟩) (by assumption) ?_
              rotate_left
              · intro w hSw
                go_simp
                first | done | with_reducible rfl
              try simp only [Act.put, List.setIfInBounds_toArray, List.set_cons_zero, List.set_cons_succ]
              refine wpAnyH_take (i := 1) (oi := { dst := some 67, op := .load 29 (.tmp 4), type := 29, pos := "steps.go:69", after := #[], guard := none }) (v := ?_) rfl (by kernel_rfl) (by kernel_rfl) (by kernel_rfl) (fun _ _ _ h => h) (Or.inl ⟨by rfl, ?_⟩) (by assumption) ?_
              rotate_left
              · intro w hSw
                go_simp
                first | done | with_reducible rfl
              try simp only [Act.put, List.setIfInBounds_toArray, List.set_cons_zero, List.set_cons_succ]
              refine wpAnyH_take (i := 2) (oi := { dst := some 68, op := .move (.tmp 7), type := 3, pos := "steps.go:69", after := #[], guard := none }) (v := ?_) rfl (by kernel_rfl) (by kernel_rfl) (by kernel_rfl) (fun _ _ _ h => h) (Or.inl ⟨by rfl, ?_⟩) (by assumption) ?_
              rotate_left
              · intro w hSw
                go_simp
                first | done | with_reducible rfl
              try simp only [Act.put, List.setIfInBounds_toArray, List.set_cons_zero, List.set_cons_succ]
              refine wpAnyH_take (i := 3) (oi := { dst := some 69, op := .fieldAddr 48 (.tmp 5) 2, type := 0, pos := "steps.go:69", after := #[], guard := none }) (v := ?_) rfl (by kernel_rfl) (by kernel_rfl) (by kernel_rfl) (fun _ _ _ h => h) (Or.inl ⟨by rfl, ?_⟩) (by assumption) ?_
              rotate_left
              · intro w hSw
                go_simp
                first | done | with_reducible rfl
              try simp only [Act.put, List.setIfInBounds_toArray, List.set_cons_zero, List.set_cons_succ]
              refine wpAnyH_take (i := 4) (oi := { dst := some 70, op := .load 3 (.tmp 69), type := 3, pos := "steps.go:69", after := #[{ on := 3, ground := .data }], guard := none }) (v := ?_) rfl (by kernel_rfl) (by kernel_rfl) (by kernel_rfl) (fun _ _ _ h => h) (Or.inl ⟨by rfl, ?_⟩) (by assumption) ?_
              rotate_left
              · intro w hSw
                go_simp
                first | done | with_reducible rfl
              try simp only [Act.put, List.setIfInBounds_toArray, List.set_cons_zero, List.set_cons_succ]
              refine wpAnyH_ready (rs := [5]) (by kernel_rfl) (by simp) ?_
              refine AllReadyH.cons (o := { dst := some 71, op := .call { callee := .value (.func 61), args := #[.tmp 66, .tmp 67, .tmp 68, .tmp 70], argTypes := #[24, 29, 3, 3] }, type := 4, pos := "steps.go:69", after := #[{ on := 0, ground := .data }, { on := 1, ground := .data }, { on := 2, ground := .data }, { on := 4, ground := .data }], guard := none }) rfl (fun K hK => ?_) AllReadyH.nil
              go_simp
              go_wp2_with (go_at_call 61; refine (CGH.out _ (grow_drew (Below.refl _ _))).mono ?_; rintro e w1 ⟨rfl, hb1⟩)
              have BW : Hid (Below wr.heap.size wr w1) := grow_trans (grow_drew (Below.refl _ _)) hb1
              clear hHeld
              refine hK.out _ _ (KS.out _ BW.out) (fun hHeld => ?_)
              clear hK K
              refine wpAnyH_take (i := 6) (oi := { dst := some 72, op := .unOp .not 4 (.tmp 71), type := 4, pos := "steps.go:69", after := #[{ on := 5, ground := .data }], guard := none }) (v := ?_) rfl (by kernel_rfl) (by kernel_rfl) (by kernel_rfl) (fun _ _ _ h => h) (Or.inl ⟨by rfl, ?_⟩) (by assumption) ?_
              rotate_left
              · intro w hSw
                go_simp
                first | done | with_reducible rfl
              try simp only [Act.put, List.setIfInBounds_toArray, List.set_cons_zero, List.set_cons_succ]
              refine wpAnyH_take (i := 7) (oi := { dst := some 73, op := .move (.tmp 72), type := 4, pos := "steps.go:69", after := #[{ on := 6, ground := .data }, { on := 5, ground := .chain }], guard := none }) (v := ?_) rfl (by kernel_rfl) (by kernel_rfl) (by kernel_rfl) (fun _ _ _ h => h) (Or.inl ⟨by rfl, ?_⟩) (by assumption) ?_
              rotate_left
              · intro w hSw
                go_simp
                first | done | with_reducible rfl
              try simp only [Act.put, List.setIfInBounds_toArray, List.set_cons_zero, List.set_cons_succ]
              refine wpAnyH_take (i := 8) (oi := { dst := some 74, op := .fieldAddr 24 (.tmp 3) 1, type := 0, pos := "steps.go:69", after := #[{ on := 7, ground := .guard }], guard := some (7, true) }) (v := undef) rfl (by kernel_rfl) (by kernel_rfl) (by kernel_rfl) (fun _ _ _ h => h) (Or.inr ⟨by rfl, rfl⟩) (by assumption) ?_
              try simp only [Act.put, List.setIfInBounds_toArray, List.set_cons_zero, List.set_cons_succ]
              refine wpAnyH_take (i := 9) (oi := { dst := some 75, op := .load 22 (.tmp 74), type := 22, pos := "steps.go:69", after := #[{ on := 8, ground := .data }, { on := 7, ground := .guard }], guard := some (7, true) }) (v := undef) rfl (by kernel_rfl) (by kernel_rfl) (by kernel_rfl) (fun _ _ _ h => h) (Or.inr ⟨by rfl, rfl⟩) (by assumption) ?_
              try simp only [Act.put, List.setIfInBounds_toArray, List.set_cons_zero, List.set_cons_succ]
              refine wpAnyH_take (i := 10) (oi := { dst := some 76, op := .move (.tmp 7), type := 3, pos := "steps.go:69", after := #[{ on := 7, ground := .guard }], guard := some (7, true) }) (v := undef) rfl (by kernel_rfl) (by kernel_rfl) (by kernel_rfl) (fun _ _ _ h => h) (Or.inr ⟨by rfl, rfl⟩) (by assumption) ?_
              try simp only [Act.put, List.setIfInBounds_toArray, List.set_cons_zero, List.set_cons_succ]
              refine wpAnyH_take (i := 11) (oi := { dst := some 77, op := .indexAddr 22 (.tmp 75) (.tmp 76), type := 0, pos := "steps.go:69", after := #[{ on := 9, ground := .data }, { on := 10, ground := .data }, { on := 7, ground := .guard }], guard := some (7, true) }) (v := undef) rfl (by kernel_rfl) (by kernel_rfl) (by kernel_rfl) (fun _ _ _ h => h) (Or.inr ⟨by rfl, rfl⟩) (by assumption) ?_
              try simp only [Act.put, List.setIfInBounds_toArray, List.set_cons_zero, List.set_cons_succ]
              refine wpAnyH_take (i := 12) (oi := { dst := some 78, op := .load 79 (.tmp 77), type := 79, pos := "steps.go:69", after := #[{ on := 11, ground := .data }, { on := 7, ground := .guard }], guard := some (7, true) }) (v := undef) rfl (by kernel_rfl) (by kernel_rfl) (by kernel_rfl) (fun _ _ _ h => h) (Or.inr ⟨by rfl, rfl⟩) (by assumption) ?_
              try simp only [Act.put, List.setIfInBounds_toArray, List.set_cons_zero, List.set_cons_succ]
              refine wpAnyH_take (i := 13) (oi := { dst := some 79, op := .fieldAddr 24 (.tmp 3) 1, type := 0, pos := "steps.go:69", after := #[{ on := 7, ground := .guard }], guard := some (7, true) }) (v := undef) rfl (by kernel_rfl) (by kernel_rfl) (by kernel_rfl) (fun _ _ _ h => h) (Or.inr ⟨by rfl, rfl⟩) (by assumption) ?_
              try simp only [Act.put, List.setIfInBounds_toArray, List.set_cons_zero, List.set_cons_succ]
              refine wpAnyH_take (i := 14) (oi := { dst := some 80, op := .load 22 (.tmp 79), type := 22, pos := "steps.go:69", after := #[{ on := 13, ground := .data }, { on := 7, ground := .guard }], guard := some (7, true) }) (v := undef) rfl (by kernel_rfl) (by kernel_rfl) (by kernel_rfl) (fun _ _ _ h => h) (Or.inr ⟨by rfl, rfl⟩) (by assumption) ?_
              try simp only [Act.put, List.setIfInBounds_toArray, List.set_cons_zero, List.set_cons_succ]
              refine wpAnyH_take (i := 15) (oi := { dst := some 81, op := .fieldAddr 48 (.tmp 5) 1, type := 0, pos := "steps.go:69", after := #[{ on := 7, ground := .guard }], guard := some (7, true) }) (v := undef) rfl (by kernel_rfl) (by kernel_rfl) (by kernel_rfl) (fun _ _ _ h => h) (Or.inr ⟨by rfl, rfl⟩) (by assumption) ?_
              try simp only [Act.put, List.setIfInBounds_toArray, List.set_cons_zero, List.set_cons_succ]
              refine wpAnyH_take (i := 16) (oi := { dst := some 82, op := .load 3 (.tmp 81), type := 3, pos := "steps.go:69", after := #[{ on := 15, ground := .data }, { on := 7, ground := .guard }], guard := some (7, true) }) (v := undef) rfl (by kernel_rfl) (by kernel_rfl) (by kernel_rfl) (fun _ _ _ h => h) (Or.inr ⟨by rfl, rfl⟩) (by assumption) ?_
              try simp only [Act.put, List.setIfInBounds_toArray, List.set_cons_zero, List.set_cons_succ]
              refine wpAnyH_take (i := 17) (oi := { dst := some 83, op := .indexAddr 22 (.tmp 80) (.tmp 82), type := 0, pos := "steps.go:69", after := #[{ on := 14, ground := .data }, { on := 16, ground := .data }, { on := 7, ground := .guard }], guard := some (7, true) }) (v := undef) rfl (by kernel_rfl) (by kernel_rfl) (by kernel_rfl) (fun _ _ _ h => h) (Or.inr ⟨by rfl, rfl⟩) (by assumption) ?_
              try simp only [Act.put, List.setIfInBounds_toArray, List.set_cons_zero, List.set_cons_succ]
              refine wpAnyH_take (i := 18) (oi := { dst := some 84, op := .load 79 (.tmp 83), type := 79, pos := "steps.go:69", after := #[{ on := 17, ground := .data }, { on := 7, ground := .guard }], guard := some (7, true) }) (v := undef) rfl (by kernel_rfl) (by kernel_rfl) (by kernel_rfl) (fun _ _ _ h => h) (Or.inr ⟨by rfl, rfl⟩) (by assumption) ?_
              try simp only [Act.put, List.setIfInBounds_toArray, List.set_cons_zero, List.set_cons_succ]
              refine wpAnyH_take (i := 19) (oi := { dst := some 85, op := .fieldAddr 24 (.tmp 3) 0, type := 0, pos := "steps.go:69", after := #[{ on := 7, ground := .guard }], guard := some (7, true) }) (v := undef) rfl (by kernel_rfl) (by kernel_rfl) (by kernel_rfl) (fun _ _ _ h => h) (Or.inr ⟨by rfl, rfl⟩) (by assumption) ?_
              try simp only [Act.put, List.setIfInBounds_toArray, List.set_cons_zero, List.set_cons_succ]
              refine wpAnyH_take (i := 20) (oi := { dst := some 86, op := .load 3 (.tmp 85), type := 3, pos := "steps.go:69", after := #[{ on := 19, ground := .data }, { on := 7, ground := .guard }], guard := some (7, true) }) (v := undef) rfl (by kernel_rfl) (by kernel_rfl) (by kernel_rfl) (fun _ _ _ h => h) (Or.inr ⟨by rfl, rfl⟩) (by assumption) ?_
              try simp only [Act.put, List.setIfInBounds_toArray, List.set_cons_zero, List.set_cons_succ]
              refine wpAnyH_take (i := 21) (oi := { dst := some 87, op := .fieldAddr 48 (.tmp 5) 2, type := 0, pos := "steps.go:69", after := #[{ on := 7, ground := .guard }], guard := some (7, true) }) (v := undef) rfl (by kernel_rfl) (by kernel_rfl) (by kernel_rfl) (fun _ _ _ h => h) (Or.inr ⟨by rfl, rfl⟩) (by assumption) ?_
              try simp only [Act.put, List.setIfInBounds_toArray, List.set_cons_zero, List.set_cons_succ]
              refine wpAnyH_take (i := 22) (oi := { dst := some 88, op := .load 3 (.tmp 87), type := 3, pos := "steps.go:69", after := #[{ on := 21, ground := .data }, { on := 7, ground := .guard }], guard := some (7, true) }) (v := undef) rfl (by kernel_rfl) (by kernel_rfl) (by kernel_rfl) (fun _ _ _ h => h) (Or.inr ⟨by rfl, rfl⟩) (by assumption) ?_
              try simp only [Act.put, List.setIfInBounds_toArray, List.set_cons_zero, List.set_cons_succ]
              refine wpAnyH_take (i := 23) (oi := { dst := some 89, op := .call { callee := .value (.func 107), args := #[.tmp 78, .tmp 84, .tmp 86, .tmp 88], argTypes := #[79, 79, 3, 3] }, type := 4, pos := "steps.go:69", after := #[{ on := 12, ground := .data }, { on := 18, ground := .data }, { on := 20, ground := .data }, { on := 22, ground := .data }, { on := 7, ground := .chain }, { on := 7, ground := .guard }], guard := some (7, true) }) (v := undef) rfl (by kernel_rfl) (by kernel_rfl) (by kernel_rfl) (fun _ _ _ h => h) (Or.inr ⟨by rfl, rfl⟩) (by assumption) ?_
              try simp only [Act.put, List.setIfInBounds_toArray, List.set_cons_zero, List.set_cons_succ]
              refine wpAnyH_take (i := 24) (oi := { dst := some 90, op := .pick (.tmp 73) (.tmp 89) (.const (.bool false)), type := 4, pos := "steps.go:69", after := #[{ on := 7, ground := .data }, { on := 23, ground := .data }], guard := none }) (v := ?_) rfl (by kernel_rfl) (by kernel_rfl) (by kernel_rfl) (fun _ _ _ h => h) (Or.inl ⟨by rfl, ?_⟩) (by assumption) ?_
              rotate_left
              · intro w hSw
                go_simp
                first | done | with_reducible rfl
              try simp only [Act.put, List.setIfInBounds_toArray, List.set_cons_zero, List.set_cons_succ]
              refine wpAnyH_done (by kernel_rfl) ?_ _
              have B1 : Hid (Below W.heap.size W w1) := RES2.out _ BW.out
              go_wp2
              go_roundw
              case rel => exact ⟨a + 1, by omega, by go_num, by show _ = _; rw [HST.out]; rfl, B1⟩
              case measure => simp [intOf]; omega
            | false =>
              go_region_held3 (fun w' => w'.cell? ⟨w.heap.size, 0, none⟩ = some (.int .i64 (sh : Int)) ∧ w'.cell? ⟨w.heap.size, 1, none⟩ = some (.slice (some ⟨tb, tof, none⟩) l.length lc) ∧ w'.cell? ⟨w.heap.size + 1, 0, none⟩ = some (.slice sa S.st.length sc) ∧ w'.cell? ⟨w.heap.size + 1, 1, none⟩ = some (.slice ra S.rd.length rc) ∧ w'.cell? ⟨w.heap.size + 1, 2, none⟩ = some (.slice wa S.wr.length tc) ∧ w'.cell? ⟨w.heap.size + 1, 3, none⟩ = some (.slice va S.vs.length vc) ∧ w'.cell? ⟨w.heap.size + 2, 1, none⟩ = some (.int .i64 (n : Int)) ∧ w'.cell? ⟨w.heap.size + 2, 2, none⟩ = some (.int .i64 (k : Int)) ∧ w'.cell? ⟨tb, tof + a * 3, none⟩ = some (.slice xa.ra xa.rs.length xa.rc) ∧ w'.cell? ⟨tb, tof + a * 3 + 1, none⟩ = some (.slice xa.ga xa.gs.length xa.gc) ∧ w'.cell? ⟨tb, tof + a * 3 + 2, none⟩ = some (.slice xa.sa xa.ss.length xa.sc) ∧ w'.cell? ⟨tb, tof + n * 3, none⟩ = some (.slice xn.ra xn.rs.length xn.rc) ∧ w'.cell? ⟨tb, tof + n * 3 + 1, none⟩ = some (.slice xn.ga xn.gs.length xn.gc) ∧ w'.cell? ⟨tb, tof + n * 3 + 2, none⟩ = some (.slice xn.sa xn.ss.length xn.sc) ∧ Hid (Below wr.heap.size wr w')) ((refine KS.out _ ?_; go_split_ands; repeat (first | assumption | exact Below.refl _ _ | exact Hid.out (by assumption) | refine grow_drew ?_ | refine grow_alloc ?_ _ | refine grow_trans ?_ (by assumption))))
                (first
                  | (go_at_call 61; refine (CGH.out _ ?_).mono ?_; (go_split_ands; repeat (first | assumption | exact Below.refl _ _ | exact Hid.out (by assumption) | refine grow_drew ?_ | refine grow_alloc ?_ _ | refine grow_trans ?_ (by assumption))); rintro e w1 ⟨rfl, hb1⟩)
                  | (go_at_call 107; refine (CLH.out _ ?_).mono ?_; (go_split_ands; repeat (first | assumption | exact Below.refl _ _ | exact Hid.out (by assumption) | refine grow_drew ?_ | refine grow_alloc ?_ _ | refine grow_trans ?_ (by assumption))); rintro e w2 ⟨rfl, hb2⟩))
              all_goals (
                go_split_ands
                have B2 : Hid (Below W.heap.size W w2) := RES2.out _ (Hid.out (by assumption))
                clear RES2 KS CGH CLH
                cases C with
                | true =>
                  obtain rfl : RR = false := by rw [HM3.out, HSP.out rfl]; rfl
                  have BF : Hid (Below w.heap.size w w2) := RES.out _ B2.out
                  go_wp2
                  go_ret
                  exact ⟨rfl, BF.out⟩
                | false =>
                  go_wp2
                  go_roundw
                  case rel => exact ⟨a + 1, by omega, by go_num, by show _ = _; rw [HST.out]; rfl, B2⟩
                  case measure => simp [intOf]; omega)
          · have hE : a = n := by omega
            subst hE
            obtain rfl : RR = true := by rw [HM3.out, HBE.out hT.out]; rfl
            have BF : Hid (Below w.heap.size w wr) := RES.out _ BV.out
            have i1 : ¬ (a : Int) < (a : Int) := by omega
            go_wp2
            go_ret
            exact ⟨rfl, BF.out⟩
end Go.Proofs.YtebjkmknhpgemaaGreat

namespace Go.Proofs.YtebjkmknhpgemaaGreat
open Go.RowKit

/-- The steps of the kinds ahead. -/
def canP (sh : Nat) (l : List TxA) (S : SA) (kd : Nat) : List (Nat × Nat × Nat) := if kd = 1 then [] else if kd = 2 then canK sh l S 1 else canL sh l S
theorem canP_step (sh : Nat) (l : List TxA) (S : SA) {kd : Nat} (h : kd = 1 ∨ kd = 2) : canP sh l S (kd + 1) = canP sh l S kd ++ canT sh l S kd l.length := by
  rcases h with rfl | rfl <;> rfl
theorem canP_len (sh : Nat) (l : List TxA) (S : SA) {kd : Nat} (h : kd = 1 ∨ kd = 2) : (canP sh l S kd).length ≤ l.length * sh := by
  rcases h with rfl | rfl
  · exact Nat.zero_le _
  · exact canT_len sh l S 1 l.length

variable (la : Option Addr) (lc : Nat) (l : List TxA) (sa ra wa va : Option Addr) (sc rc tc vc : Nat) (S : SA)

theorem docMay_any (sh kd n k : Nat) (w : World) (hl : IsTxs w la l) (hs : Sta w sa ra wa va S) (hp : ∀ a, a < l.length → pnE sh l a = 0) (hF : Form sh l S) (hkd : kd = 1 ∨ kd = 2) (hn : n < l.length) (h8 : l.length ≤ 8) (hk : k < sh) (h4 : sh ≤ 4) :
    Calls Tryz.prog 65 #[.agg #[.int .i64 (sh : Int), .slice la l.length lc], .agg #[.slice sa S.st.length sc, .slice ra S.rd.length rc, .slice wa S.wr.length tc, .slice va S.vs.length vc], .agg #[.int .i64 (kd : Int), .int .i64 (n : Int), .int .i64 (k : Int)]] w fun e w' => e = .returned (.bool (mayB sh l S kd n k)) ∧ Below w.heap.size w w' := by
  rcases hkd with rfl | rfl
  · exact docMay_read la lc l sa ra wa va sc rc tc vc S sh n k w hl hs hp hF hn h8 hk h4
  · exact docMay_write la lc l sa ra wa va sc rc tc vc S sh n k w hl hs hp hF hn h8 hk h4

set_option maxRecDepth 100000 in
set_option maxHeartbeats 4000000 in
/-- The document's CanOf. -/
theorem docCan_any (sh : Nat) (w : World) (hl : IsTxs w la l) (hs : Sta w sa ra wa va S) (hp : ∀ a, a < l.length → pnE sh l a = 0) (hF : Form sh l S) (h8 : l.length ≤ 8) (h4 : sh ≤ 4) :
    Calls Tryz.prog 25 #[.agg #[.int .i64 (sh : Int), .slice la l.length lc], .agg #[.slice sa S.st.length sc, .slice ra S.rd.length rc, .slice wa S.wr.length tc, .slice va S.vs.length vc]] w fun e w' => ∃ a c, e = .returned (.slice a (canL sh l S).length c) ∧ IsSteps w' a (canL sh l S) ∧ Below w.heap.size w w' := by
  obtain ⟨i0, hi, hz0, hz1, hz2⟩ := info_parts Tryz.info48
  have hW : Hid (Below w.heap.size w ((w.alloc (.cells #[.int .i64 (sh : Int), .slice la l.length lc] 24)).alloc (.cells #[.slice sa S.st.length sc, .slice ra S.rd.length rc, .slice wa S.wr.length tc, .slice va S.vs.length vc] 29))) := (grow_alloc (grow_alloc (Below.refl _ _) _) _)
  have p0 : ((w.alloc (.cells #[.int .i64 (sh : Int), .slice la l.length lc] 24)).alloc (.cells #[.slice sa S.st.length sc, .slice ra S.rd.length rc, .slice wa S.wr.length tc, .slice va S.vs.length vc] 29)).cell? ⟨w.heap.size, 0, none⟩ = some (.int .i64 (sh : Int)) := ext_cell (grow_alloc (Below.refl _ _) _) (at_new _ _ 24 _ 0 _ (by first | rfl | simp) rfl)
  have p1 : ((w.alloc (.cells #[.int .i64 (sh : Int), .slice la l.length lc] 24)).alloc (.cells #[.slice sa S.st.length sc, .slice ra S.rd.length rc, .slice wa S.wr.length tc, .slice va S.vs.length vc] 29)).cell? ⟨w.heap.size, 1, none⟩ = some (.slice la l.length lc) := ext_cell (grow_alloc (Below.refl _ _) _) (at_new _ _ 24 _ 1 _ (by first | rfl | simp) rfl)
  have q0 : ((w.alloc (.cells #[.int .i64 (sh : Int), .slice la l.length lc] 24)).alloc (.cells #[.slice sa S.st.length sc, .slice ra S.rd.length rc, .slice wa S.wr.length tc, .slice va S.vs.length vc] 29)).cell? ⟨w.heap.size + 1, 0, none⟩ = some (.slice sa S.st.length sc) := ext_cell (Below.refl _ _) (at_new _ _ 29 _ 0 _ (by first | rfl | simp) rfl)
  have q1 : ((w.alloc (.cells #[.int .i64 (sh : Int), .slice la l.length lc] 24)).alloc (.cells #[.slice sa S.st.length sc, .slice ra S.rd.length rc, .slice wa S.wr.length tc, .slice va S.vs.length vc] 29)).cell? ⟨w.heap.size + 1, 1, none⟩ = some (.slice ra S.rd.length rc) := ext_cell (Below.refl _ _) (at_new _ _ 29 _ 1 _ (by first | rfl | simp) rfl)
  have q2 : ((w.alloc (.cells #[.int .i64 (sh : Int), .slice la l.length lc] 24)).alloc (.cells #[.slice sa S.st.length sc, .slice ra S.rd.length rc, .slice wa S.wr.length tc, .slice va S.vs.length vc] 29)).cell? ⟨w.heap.size + 1, 2, none⟩ = some (.slice wa S.wr.length tc) := ext_cell (Below.refl _ _) (at_new _ _ 29 _ 2 _ (by first | rfl | simp) rfl)
  have q3 : ((w.alloc (.cells #[.int .i64 (sh : Int), .slice la l.length lc] 24)).alloc (.cells #[.slice sa S.st.length sc, .slice ra S.rd.length rc, .slice wa S.wr.length tc, .slice va S.vs.length vc] 29)).cell? ⟨w.heap.size + 1, 3, none⟩ = some (.slice va S.vs.length vc) := ext_cell (Below.refl _ _) (at_new _ _ 29 _ 3 _ (by first | rfl | simp) rfl)
  have KEEP : Hid (∀ w', Below ((w.alloc (.cells #[.int .i64 (sh : Int), .slice la l.length lc] 24)).alloc (.cells #[.slice sa S.st.length sc, .slice ra S.rd.length rc, .slice wa S.wr.length tc, .slice va S.vs.length vc] 29)).heap.size ((w.alloc (.cells #[.int .i64 (sh : Int), .slice la l.length lc] 24)).alloc (.cells #[.slice sa S.st.length sc, .slice ra S.rd.length rc, .slice wa S.wr.length tc, .slice va S.vs.length vc] 29)) w' → w'.cell? ⟨w.heap.size, 0, none⟩ = some (.int .i64 (sh : Int)) ∧ w'.cell? ⟨w.heap.size, 1, none⟩ = some (.slice la l.length lc) ∧ w'.cell? ⟨w.heap.size + 1, 0, none⟩ = some (.slice sa S.st.length sc) ∧ w'.cell? ⟨w.heap.size + 1, 1, none⟩ = some (.slice ra S.rd.length rc) ∧ w'.cell? ⟨w.heap.size + 1, 2, none⟩ = some (.slice wa S.wr.length tc) ∧ w'.cell? ⟨w.heap.size + 1, 3, none⟩ = some (.slice va S.vs.length vc)) := fun w' hb => ⟨ext_cell hb p0, ext_cell hb p1, ext_cell hb q0, ext_cell hb q1, ext_cell hb q2, ext_cell hb q3⟩
  have CM : Hid (∀ (kd n k : Nat), kd = 1 ∨ kd = 2 → n < l.length → k < sh → ∀ w', Below ((w.alloc (.cells #[.int .i64 (sh : Int), .slice la l.length lc] 24)).alloc (.cells #[.slice sa S.st.length sc, .slice ra S.rd.length rc, .slice wa S.wr.length tc, .slice va S.vs.length vc] 29)).heap.size ((w.alloc (.cells #[.int .i64 (sh : Int), .slice la l.length lc] 24)).alloc (.cells #[.slice sa S.st.length sc, .slice ra S.rd.length rc, .slice wa S.wr.length tc, .slice va S.vs.length vc] 29)) w' → Calls Tryz.prog 65 #[.agg #[.int .i64 (sh : Int), .slice la l.length lc], .agg #[.slice sa S.st.length sc, .slice ra S.rd.length rc, .slice wa S.wr.length tc, .slice va S.vs.length vc], .agg #[.int .i64 (kd : Int), .int .i64 (n : Int), .int .i64 (k : Int)]] w' fun e w'' => e = .returned (.bool (mayB sh l S kd n k)) ∧ Below w'.heap.size w' w'') := fun kd n k hkd hn hk w' hb => docMay_any la lc l sa ra wa va sc rc tc vc S sh kd n k w' ((hl.below hW.out).below hb) ((hs.below hW.out).below hb) hp hF hkd hn h8 hk h4
  clear hl hs hp hF p0 p1 q0 q1 q2 q3
  go_enter Tryz.func25, Tryz.ntmps25
  go_upto_region 1 with fail
  generalize ((w.alloc (.cells #[.int .i64 (sh : Int), .slice la l.length lc] 24)).alloc (.cells #[.slice sa S.st.length sc, .slice ra S.rd.length rc, .slice wa S.wr.length tc, .slice va S.vs.length vc] 29)) = W at *
  go_wp2
  go_loopw [5, 6] (fun v i wr => ∃ kd : Nat, 1 ≤ kd ∧ kd ≤ 3 ∧ i = .int .i64 kd ∧ Hid (wr.ownsRow W.heap.size 48 3 v (canP sh l S kd).length (cellsT (canP sh l S kd))) ∧ Hid (Below W.heap.size W wr)) (fun _ i _ => 3 - (intOf i).toNat)
  case atStart => exact ⟨1, Nat.le_refl _, by omega, rfl, World.ownsRow_nil _ _ _ _, Below.refl _ _⟩
  case round =>
    obtain ⟨kd, hk1, hk3, rfl, hown, hB⟩ := hrel
    by_cases hlt : kd ≤ 2
    · have hkd : kd = 1 ∨ kd = 2 := by omega
      have hPL := canP_len sh l S hkd
      have HPS : Hid (canP sh l S (kd + 1) = canP sh l S kd ++ canT sh l S kd l.length) := canP_step sh l S hkd
      have i1 : (kd : Int) ≤ 2 := by omega
      have ho0 : Hid (wr.ownsRow W.heap.size 48 3 u5 (canP sh l S kd ++ canT sh l S kd 0).length (cellsT (canP sh l S kd ++ canT sh l S kd 0))) := by
        have e : canT sh l S kd 0 = [] := rfl
        rw [e, List.append_nil]; exact hown.out
      clear hown
      go_wp2
      go_loopw [5, 7] (fun v i wq => ∃ n : Nat, n ≤ l.length ∧ i = .int .i64 n ∧ Hid (wq.ownsRow W.heap.size 48 3 v (canP sh l S kd ++ canT sh l S kd n).length (cellsT (canP sh l S kd ++ canT sh l S kd n))) ∧ Hid (Below W.heap.size W wq)) (fun _ i _ => l.length - (intOf i).toNat)
      case atStart => exact ⟨0, Nat.zero_le _, rfl, ho0, hB⟩
      case round =>
        clear ho0 hB
        obtain ⟨n, hn, rfl, hown, hB⟩ := hrel
        obtain ⟨p0, p1, q0, q1, q2, q3⟩ := KEEP.out wr hB.out
        by_cases hltn : n < l.length
        · have i2 : (n : Int) < (l.length : Int) := by omega
          have ho0 : Hid (wr.ownsRow W.heap.size 48 3 u5 (canP sh l S kd ++ canT sh l S kd n ++ canR sh l S kd n 0).length (cellsT (canP sh l S kd ++ canT sh l S kd n ++ canR sh l S kd n 0))) := by
            have e : canR sh l S kd n 0 = [] := rfl
            rw [e, List.append_nil]; exact hown.out
          clear hown
          go_wp2
          clear p0 p1 q0 q1 q2 q3
          go_loopw [5, 8] (fun v i wq => ∃ k : Nat, k ≤ sh ∧ i = .int .i64 k ∧ Hid (wq.ownsRow W.heap.size 48 3 v (canP sh l S kd ++ canT sh l S kd n ++ canR sh l S kd n k).length (cellsT (canP sh l S kd ++ canT sh l S kd n ++ canR sh l S kd n k))) ∧ Hid (Below W.heap.size W wq)) (fun _ i _ => sh - (intOf i).toNat)
          case atStart => exact ⟨0, Nat.zero_le _, rfl, ho0, hB⟩
          case round =>
            clear ho0 hB
            obtain ⟨k, hk, rfl, hown, hB⟩ := hrel
            obtain ⟨p0, p1, q0, q1, q2, q3⟩ := KEEP.out wr hB.out
            by_cases hltk : k < sh
            · have HS : Hid (canR sh l S kd n (k + 1) = canR sh l S kd n k ++ (if mayB sh l S kd n k then [(kd, n, k)] else [])) := canR_step sh l S kd n k
              have CM1 : Hid (∀ w', Below W.heap.size W w' → Calls Tryz.prog 65 #[.agg #[.int .i64 (sh : Int), .slice la l.length lc], .agg #[.slice sa S.st.length sc, .slice ra S.rd.length rc, .slice wa S.wr.length tc, .slice va S.vs.length vc], .agg #[.int .i64 (kd : Int), .int .i64 (n : Int), .int .i64 (k : Int)]] w' fun e w'' => e = .returned (.bool (mayB sh l S kd n k)) ∧ Below w'.heap.size w' w'') := CM.out kd n k hkd hltn hltk
              have hlen : (canP sh l S kd ++ canT sh l S kd n ++ canR sh l S kd n k).length ≤ 100 := by
                have h1 := canT_len sh l S kd n
                have h2 := canR_len sh l S kd n k
                have h3 : n * sh ≤ 8 * 4 := Nat.mul_le_mul (by omega) (by omega)
                have h5 : l.length * sh ≤ 8 * 4 := Nat.mul_le_mul (by omega) (by omega)
                rw [List.length_append, List.length_append]
                omega
              generalize mayB sh l S kd n k = M at *
              have i3 : (k : Int) < (sh : Int) := by omega
              have hU : Hid (Below W.heap.size W (wr.alloc (.cells #[.int .i64 kd, .int .i64 n, .int .i64 k] 48))) := grow_alloc hB.out _
              have c0 : (wr.alloc (.cells #[.int .i64 kd, .int .i64 n, .int .i64 k] 48)).cell? ⟨wr.heap.size, 0, none⟩ = some (.int .i64 kd) := by simp
              have c1 : (wr.alloc (.cells #[.int .i64 kd, .int .i64 n, .int .i64 k] 48)).cell? ⟨wr.heap.size, 1, none⟩ = some (.int .i64 n) := by simp
              have c2 : (wr.alloc (.cells #[.int .i64 kd, .int .i64 n, .int .i64 k] 48)).cell? ⟨wr.heap.size, 2, none⟩ = some (.int .i64 k) := by simp
              have ho1 : Hid ((wr.alloc (.cells #[.int .i64 kd, .int .i64 n, .int .i64 k] 48)).ownsRow W.heap.size 48 3 u5 (canP sh l S kd ++ canT sh l S kd n ++ canR sh l S kd n k).length (cellsT (canP sh l S kd ++ canT sh l S kd n ++ canR sh l S kd n k))) := hown.out.alloc _
              clear hown hB
              go_upto_region 12 with fail
              clear p0 p1 q0 q1 q2 q3
              generalize (wr.alloc (.cells #[.int .i64 kd, .int .i64 n, .int .i64 k] 48)) = V at *
              obtain ⟨p0, p1, q0, q1, q2, q3⟩ := KEEP.out V hU.out
              go_wp2_with fail
              refine (CM1.out _ hU.out).mono ?_
              rintro e w1 ⟨rfl, hb1⟩
              have d0 := ext_cell hb1 c0
              have d1 := ext_cell hb1 c1
              have d2 := ext_cell hb1 c2
              have ho2 := owns_below ho1.out hb1
              have HB1 : Hid (Below W.heap.size W w1) := grow_trans hU.out hb1
              have hsz : W.heap.size ≤ w1.heap.size := HB1.out.size
              clear hb1 CM1 hU c0 c1 c2 ho1 p0 p1 q0 q1 q2 q3
              cases hM : M with
              | true =>
                rw [hM] at HS
                go_wp2_with (first | (at_builtin; (refine wpList_append_own _ rfl _ _ 43 rfl W.heap.size 48 i0 (.agg #[.int .i64 0, .int .i64 0, .int .i64 0]) 3 24 Tryz.underlying43 hi hz0 hz1 hz2 rfl (by decide) _ _ _ rfl (ho2.alloc _) _ 1 1 [.int .i64 kd, .int .i64 n, .int .i64 k] rfl rfl (news_st _ _ _ _ _ (by simp)) (one_st _ _ _) (by unfold maxLen; omega) (by omega) (by simp; omega) ?_); intro v' w3 hown' hgrow _) | go_in)
                have R : Hid (w3.ownsRow W.heap.size 48 3 v' (canP sh l S kd ++ canT sh l S kd n ++ canR sh l S kd n (k + 1)).length (cellsT (canP sh l S kd ++ canT sh l S kd n ++ canR sh l S kd n (k + 1)))) := by
                  have e : canR sh l S kd n (k + 1) = canR sh l S kd n k ++ [(kd, n, k)] := by rw [HS.out]; simp
                  rw [e, ← List.append_assoc]; exact own_st hown'
                have RB : Hid (Below W.heap.size W w3) := (HB1.out.alloc hsz _).grown hgrow (by simp; omega) (fun j hj => (ho2.lt j hj).1)
                clear hown' hgrow ho2 HS d0 d1 d2 HB1
                go_wp2
                go_roundw
                case rel => exact ⟨k + 1, by omega, by go_num, R, RB⟩
                case measure => simp [intOf]; omega
              | false =>
                rw [hM] at HS
                have R : Hid (w1.ownsRow W.heap.size 48 3 u5 (canP sh l S kd ++ canT sh l S kd n ++ canR sh l S kd n (k + 1)).length (cellsT (canP sh l S kd ++ canT sh l S kd n ++ canR sh l S kd n (k + 1)))) := by
                  have e : canR sh l S kd n (k + 1) = canR sh l S kd n k := by rw [HS.out]; simp
                  rw [e]; exact ho2
                clear ho2 HS d0 d1 d2
                go_wp2
                go_roundw
                case rel => exact ⟨k + 1, by omega, by go_num, R, HB1⟩
                case measure => simp [intOf]; omega
            · have hkk : k = sh := by omega
              have R : Hid (wr.ownsRow W.heap.size 48 3 u5 (canP sh l S kd ++ canT sh l S kd (n + 1)).length (cellsT (canP sh l S kd ++ canT sh l S kd (n + 1)))) := by
                have h := hown.out
                rw [hkk] at h
                rw [canT_step, ← List.append_assoc]
                exact h
              have i3 : ¬ (k : Int) < (sh : Int) := by omega
              clear hown
              go_wp2
              go_roundw
              case rel => exact ⟨n + 1, by omega, by go_num, R, hB⟩
              case measure => simp [intOf]; omega
        · have hnn : n = l.length := by omega
          have R : Hid (wr.ownsRow W.heap.size 48 3 u5 (canP sh l S (kd + 1)).length (cellsT (canP sh l S (kd + 1)))) := by
            have h := hown.out
            rw [hnn] at h
            show World.ownsRow _ _ _ _ _ _ _
            rw [HPS.out]
            exact h
          have i2 : ¬ (n : Int) < (l.length : Int) := by omega
          clear hown
          go_wp2
          go_roundw
          case rel => exact ⟨kd + 1, by omega, by omega, by go_num, R, hB⟩
          case measure => simp [intOf]; omega
    · have hkk : kd = 3 := by omega
      subst hkk
      have R : Hid (wr.ownsRow W.heap.size 48 3 u5 (canL sh l S).length (cellsT (canL sh l S))) := hown.out
      have BF : Hid (Below w.heap.size w wr) := grow_trans hW.out hB.out
      clear hown hB
      go_wp2
      go_ret
      obtain ⟨a, c, e1, e2⟩ := steps_of_owns R.out rfl
      exact ⟨a, c, by rw [e1]; rfl, e2, BF.out⟩
end Go.Proofs.YtebjkmknhpgemaaGreat

namespace Go.Proofs.YtebjkmknhpgemaaGreat
open Go.RowKit

/-- One row of marks, as it lies. -/
theorem IsBB.row {w : World} {a : Option Addr} {rows : List (List Bool)} (h : IsBB w a rows) {n sh : Nat} (hn : n < rows.length) (hs : (rows.getD n []).length = sh) (h0 : 0 < sh) : ∃ b4 o4 b5 o5 c5, a = some ⟨b4, o4, none⟩ ∧ w.cell? ⟨b4, o4 + n, none⟩ = some (.slice (some ⟨b5, o5, none⟩) sh c5) ∧ ∀ k, k < sh → w.cell? ⟨b5, o5 + k, none⟩ = some (.bool (at2 rows n k)) := by
  obtain ⟨b, off, a', c', ha, _, hc, hb, _⟩ := h n hn
  rw [hs] at hc
  obtain ⟨b5, o5, rfl, _, _⟩ := hb 0 (by rw [hs]; exact h0)
  refine ⟨b, off, b5, o5, c', ha, hc, fun k hk => ?_⟩
  obtain ⟨b6, o6, e, _, d⟩ := hb k (by rw [hs]; exact hk)
  cases e
  exact d
/-- What CheckState asks of one transaction. -/
def rowB (sh : Nat) (l : List TxA) (S : SA) (n k : Nat) : Bool := (!at2 S.rd n k || ptB sh (gX l n) k) && (!at2 S.wr n k || (acB sh (gX l n) k && allRd sh l S n))
def rowF (sh : Nat) (l : List TxA) (S : SA) (n : Nat) : Bool := decide ((S.rd.getD n []).length = sh) && decide ((S.wr.getD n []).length = sh) && decide ((S.vs.getD n []).length = (gX l n).rs.length)
def rowC (sh : Nat) (l : List TxA) (S : SA) (n : Nat) : Bool := rowF sh l S n && (List.range sh).all (rowB sh l S n)
def lens (l : List TxA) (S : SA) : Bool := decide (S.st.length = 8) && decide (S.rd.length = l.length) && decide (S.wr.length = l.length) && decide (S.vs.length = l.length)
theorem form_rows (sh : Nat) (l : List TxA) (S : SA) : (formB sh l S && truthB sh l S) = (lens l S && (List.range l.length).all (rowC sh l S)) := by
  have e1 : formB sh l S = (lens l S && (List.range l.length).all (rowF sh l S)) := rfl
  have e2 : truthB sh l S = (List.range l.length).all (fun n => (List.range sh).all (rowB sh l S n)) := rfl
  rw [e1, e2, Bool.and_assoc]
  congr 1
  rw [Bool.eq_iff_iff]
  simp only [Bool.and_eq_true, List.all_eq_true]
  constructor
  · rintro ⟨h1, h2⟩ n hn
    unfold rowC
    rw [h1 n hn, Bool.true_and, List.all_eq_true]
    exact h2 n hn
  · intro h
    constructor
    · intro n hn
      have := h n hn
      unfold rowC at this
      rw [Bool.and_eq_true] at this
      exact this.1
    · intro n hn
      have := h n hn
      unfold rowC at this
      rw [Bool.and_eq_true, List.all_eq_true] at this
      exact this.2

variable (la : Option Addr) (lc : Nat) (l : List TxA) (sa ra wa va : Option Addr) (sc rc tc vc : Nat) (S : SA)

set_option maxRecDepth 100000 in
set_option maxHeartbeats 2000000 in
/-- The document's allRead, where only the row itself is known to be as long as it must be. -/
theorem docAllRead_row (sh n : Nat) (w : World) (hl : IsTxs w la l) (hs : Sta w sa ra wa va S) (hp : pnE sh l n = 0) (hrl : S.rd.length = l.length) (hrw : (S.rd.getD n []).length = sh) (hn : n < l.length) (h0 : 0 < sh) (h4 : sh ≤ 4) (_h8 : l.length ≤ 8) :
    Calls Tryz.prog 55 #[.agg #[.int .i64 (sh : Int), .slice la l.length lc], .agg #[.slice sa S.st.length sc, .slice ra S.rd.length rc, .slice wa S.wr.length tc, .slice va S.vs.length vc], .int .i64 n] w fun e w' => e = .returned (.bool (allRd sh l S n)) ∧ Below w.heap.size w w' := by
  have hW : Hid (Below w.heap.size w ((w.alloc (.cells #[.int .i64 (sh : Int), .slice la l.length lc] 24)).alloc (.cells #[.slice sa S.st.length sc, .slice ra S.rd.length rc, .slice wa S.wr.length tc, .slice va S.vs.length vc] 29))) := grow_alloc (grow_alloc (Below.refl _ _) _) _
  have p0 : ((w.alloc (.cells #[.int .i64 (sh : Int), .slice la l.length lc] 24)).alloc (.cells #[.slice sa S.st.length sc, .slice ra S.rd.length rc, .slice wa S.wr.length tc, .slice va S.vs.length vc] 29)).cell? ⟨w.heap.size, 0, none⟩ = some (.int .i64 (sh : Int)) := ext_cell (grow_alloc (Below.refl _ _) _) (at_new w _ 24 _ 0 _ rfl rfl)
  have p1 : ((w.alloc (.cells #[.int .i64 (sh : Int), .slice la l.length lc] 24)).alloc (.cells #[.slice sa S.st.length sc, .slice ra S.rd.length rc, .slice wa S.wr.length tc, .slice va S.vs.length vc] 29)).cell? ⟨w.heap.size, 1, none⟩ = some (.slice la l.length lc) := ext_cell (grow_alloc (Below.refl _ _) _) (at_new w _ 24 _ 1 _ rfl rfl)
  have q1 : ((w.alloc (.cells #[.int .i64 (sh : Int), .slice la l.length lc] 24)).alloc (.cells #[.slice sa S.st.length sc, .slice ra S.rd.length rc, .slice wa S.wr.length tc, .slice va S.vs.length vc] 29)).cell? ⟨w.heap.size + 1, 1, none⟩ = some (.slice ra S.rd.length rc) := at_new _ _ 29 _ 1 _ (by simp) rfl
  have CP : Hid (Calls Tryz.prog 53 #[.agg #[.int .i64 sh, .slice la l.length lc], .int .i64 n] ((w.alloc (.cells #[.int .i64 (sh : Int), .slice la l.length lc] 24)).alloc (.cells #[.slice sa S.st.length sc, .slice ra S.rd.length rc, .slice wa S.wr.length tc, .slice va S.vs.length vc] 29)) fun e w' => ∃ a c, e = .returned (.slice a (marks sh (keysIn (locksAt l n))).length c) ∧ IsBools w' a (marks sh (keysIn (locksAt l n))) ∧ Below ((w.alloc (.cells #[.int .i64 (sh : Int), .slice la l.length lc] 24)).alloc (.cells #[.slice sa S.st.length sc, .slice ra S.rd.length rc, .slice wa S.wr.length tc, .slice va S.vs.length vc] 29)).heap.size ((w.alloc (.cells #[.int .i64 (sh : Int), .slice la l.length lc] 24)).alloc (.cells #[.slice sa S.st.length sc, .slice ra S.rd.length rc, .slice wa S.wr.length tc, .slice va S.vs.length vc] 29)) w') := partOf_any la lc l sh n _ (hl.below hW.out) hp
  have HS : Hid (Sta ((w.alloc (.cells #[.int .i64 (sh : Int), .slice la l.length lc] 24)).alloc (.cells #[.slice sa S.st.length sc, .slice ra S.rd.length rc, .slice wa S.wr.length tc, .slice va S.vs.length vc] 29)) sa ra wa va S) := hs.below hW.out
  have HM : Hid (∀ k, (marks sh (keysIn (locksAt l n))).getD k false = ptB sh (gX l n) k) := fun _ => rfl
  have HL : Hid ((marks sh (keysIn (locksAt l n))).length = sh) := marks_len _ _
  have HRL : Hid (S.rd.length = l.length) := hrl
  have HRW : Hid ((S.rd.getD n []).length = sh) := hrw
  have HA : Hid (allRd sh l S n = (List.range sh).all (fun k => !ptB sh (gX l n) k || at2 S.rd n k)) := rfl
  clear hl hs hp hrl hrw
  generalize allRd sh l S n = R at *
  go_enter Tryz.func55, Tryz.ntmps55
  go_upto_region 1 with fail
  generalize ((w.alloc (.cells #[.int .i64 (sh : Int), .slice la l.length lc] 24)).alloc (.cells #[.slice sa S.st.length sc, .slice ra S.rd.length rc, .slice wa S.wr.length tc, .slice va S.vs.length vc] 29)) = W at *
  go_wp2_with fail
  refine CP.out.mono ?_
  rintro e w1 ⟨a, c, rfl, hbs, hb1⟩
  have B1 : Hid (Below w.heap.size w w1) := grow_trans hW.out hb1
  have HB : Hid (IsBools w1 a (marks sh (keysIn (locksAt l n)))) := hbs
  have x0 := ext_cell hb1 p0
  have y1 := ext_cell hb1 q1
  obtain ⟨b4, o4, b5, o5, c5, e4, z4, z5⟩ := (HS.out.below hb1).rd.row (n := n) (by rw [HRL.out]; exact hn) HRW.out h0
  have Z5 : Hid (∀ k, k < sh → w1.cell? ⟨b5, o5 + k, none⟩ = some (.bool (at2 S.rd n k))) := z5
  rw [e4, HRL.out] at y1
  clear CP hbs hb1 p0 p1 q1 z5 e4
  rw [HL.out]
  go_wp2
  go_loop [8] (fun i => ∃ k : Nat, k ≤ sh ∧ i = .int .i64 k ∧ Hid ((List.range k).all (fun k => !ptB sh (gX l n) k || at2 S.rd n k) = true)) (fun i => sh - (intOf i).toNat)
  case atStart => exact ⟨0, Nat.zero_le _, rfl, rfl⟩
  case round =>
    obtain ⟨k, hk, rfl, hall⟩ := hrel
    by_cases hlt : k < sh
    · obtain ⟨b1, o1, ea, _, d1⟩ := HB.out k (by rw [HL.out]; exact hlt)
      subst ea
      rw [HM.out k] at d1
      have d4 := Z5.out k hlt
      have hstep : Hid ((List.range (k + 1)).all (fun k => !ptB sh (gX l n) k || at2 S.rd n k) = (!ptB sh (gX l n) k || at2 S.rd n k)) := by
        show _ = _
        rw [all_to, hall.out, Bool.true_and]
      have hstop : Hid ((!ptB sh (gX l n) k || at2 S.rd n k) = false → R = false) := fun e => by rw [HA.out]; exact all_stop hlt e
      have i1 : (k : Int) < (sh : Int) := by omega
      generalize ptB sh (gX l n) k = P at *
      generalize at2 S.rd n k = Q at *
      clear hall
      cases P
      · go_wp2
        go_round
        case rel => exact ⟨k + 1, by omega, by go_num, by show _ = _; rw [hstep.out]; rfl⟩
        case measure => simp [intOf]; omega
      · cases Q
        · have HR : Hid (R = false) := hstop.out rfl
          clear hstop hstep
          go_wp2
          go_ret
          exact ⟨by rw [HR.out]; rfl, B1.out⟩
        · go_wp2
          go_round
          case rel => exact ⟨k + 1, by omega, by go_num, by show _ = _; rw [hstep.out]; rfl⟩
          case measure => simp [intOf]; omega
    · have hkk : k = sh := by omega
      subst hkk
      have HR : Hid (R = true) := by show _ = _; rw [HA.out]; exact hall.out
      have i1 : ¬ (k : Int) < (k : Int) := by omega
      go_wp2
      go_ret
      exact ⟨by rw [HR.out]; rfl, B1.out⟩

set_option maxRecDepth 100000 in
set_option maxHeartbeats 8000000 in
/-- The document's CheckState, of a right plan. -/
theorem docCheck_ok (sh : Nat) (w : World) (hl : IsTxs w la l) (hs : Sta w sa ra wa va S) (hp : planE sh l = 0) :
    Calls Tryz.prog 19 #[.agg #[.int .i64 (sh : Int), .slice la l.length lc], .agg #[.slice sa S.st.length sc, .slice ra S.rd.length rc, .slice wa S.wr.length tc, .slice va S.vs.length vc]] w fun e w' => e = .returned (.int .i64 (stE sh l S)) ∧ Below w.heap.size w w' := by
  obtain ⟨h1, h4', hc⟩ := planE_zero hp
  have h0 : 0 < sh := by omega
  have h4 : sh ≤ 4 := by omega
  have h8 := chkL_len hc
  have hpn : ∀ a, a < l.length → pnE sh l a = 0 := fun a ha => pnE_in hp ha
  have hW : Hid (Below w.heap.size w ((w.alloc (.cells #[.int .i64 (sh : Int), .slice la l.length lc] 24)).alloc (.cells #[.slice sa S.st.length sc, .slice ra S.rd.length rc, .slice wa S.wr.length tc, .slice va S.vs.length vc] 29))) := grow_alloc (grow_alloc (Below.refl _ _) _) _
  have p0 : ((w.alloc (.cells #[.int .i64 (sh : Int), .slice la l.length lc] 24)).alloc (.cells #[.slice sa S.st.length sc, .slice ra S.rd.length rc, .slice wa S.wr.length tc, .slice va S.vs.length vc] 29)).cell? ⟨w.heap.size, 0, none⟩ = some (.int .i64 (sh : Int)) := ext_cell (grow_alloc (Below.refl _ _) _) (at_new _ _ 24 _ 0 _ (by first | rfl | simp) rfl)
  have p1 : ((w.alloc (.cells #[.int .i64 (sh : Int), .slice la l.length lc] 24)).alloc (.cells #[.slice sa S.st.length sc, .slice ra S.rd.length rc, .slice wa S.wr.length tc, .slice va S.vs.length vc] 29)).cell? ⟨w.heap.size, 1, none⟩ = some (.slice la l.length lc) := ext_cell (grow_alloc (Below.refl _ _) _) (at_new _ _ 24 _ 1 _ (by first | rfl | simp) rfl)
  have q0 : ((w.alloc (.cells #[.int .i64 (sh : Int), .slice la l.length lc] 24)).alloc (.cells #[.slice sa S.st.length sc, .slice ra S.rd.length rc, .slice wa S.wr.length tc, .slice va S.vs.length vc] 29)).cell? ⟨w.heap.size + 1, 0, none⟩ = some (.slice sa S.st.length sc) := ext_cell (Below.refl _ _) (at_new _ _ 29 _ 0 _ (by first | rfl | simp) rfl)
  have q1 : ((w.alloc (.cells #[.int .i64 (sh : Int), .slice la l.length lc] 24)).alloc (.cells #[.slice sa S.st.length sc, .slice ra S.rd.length rc, .slice wa S.wr.length tc, .slice va S.vs.length vc] 29)).cell? ⟨w.heap.size + 1, 1, none⟩ = some (.slice ra S.rd.length rc) := ext_cell (Below.refl _ _) (at_new _ _ 29 _ 1 _ (by first | rfl | simp) rfl)
  have q2 : ((w.alloc (.cells #[.int .i64 (sh : Int), .slice la l.length lc] 24)).alloc (.cells #[.slice sa S.st.length sc, .slice ra S.rd.length rc, .slice wa S.wr.length tc, .slice va S.vs.length vc] 29)).cell? ⟨w.heap.size + 1, 2, none⟩ = some (.slice wa S.wr.length tc) := ext_cell (Below.refl _ _) (at_new _ _ 29 _ 2 _ (by first | rfl | simp) rfl)
  have q3 : ((w.alloc (.cells #[.int .i64 (sh : Int), .slice la l.length lc] 24)).alloc (.cells #[.slice sa S.st.length sc, .slice ra S.rd.length rc, .slice wa S.wr.length tc, .slice va S.vs.length vc] 29)).cell? ⟨w.heap.size + 1, 3, none⟩ = some (.slice va S.vs.length vc) := ext_cell (Below.refl _ _) (at_new _ _ 29 _ 3 _ (by first | rfl | simp) rfl)
  have KEEP : Hid (∀ w', Below ((w.alloc (.cells #[.int .i64 (sh : Int), .slice la l.length lc] 24)).alloc (.cells #[.slice sa S.st.length sc, .slice ra S.rd.length rc, .slice wa S.wr.length tc, .slice va S.vs.length vc] 29)).heap.size ((w.alloc (.cells #[.int .i64 (sh : Int), .slice la l.length lc] 24)).alloc (.cells #[.slice sa S.st.length sc, .slice ra S.rd.length rc, .slice wa S.wr.length tc, .slice va S.vs.length vc] 29)) w' → w'.cell? ⟨w.heap.size, 0, none⟩ = some (.int .i64 (sh : Int)) ∧ w'.cell? ⟨w.heap.size, 1, none⟩ = some (.slice la l.length lc) ∧ w'.cell? ⟨w.heap.size + 1, 0, none⟩ = some (.slice sa S.st.length sc) ∧ w'.cell? ⟨w.heap.size + 1, 1, none⟩ = some (.slice ra S.rd.length rc) ∧ w'.cell? ⟨w.heap.size + 1, 2, none⟩ = some (.slice wa S.wr.length tc) ∧ w'.cell? ⟨w.heap.size + 1, 3, none⟩ = some (.slice va S.vs.length vc)) := fun w' hb => ⟨ext_cell hb p0, ext_cell hb p1, ext_cell hb q0, ext_cell hb q1, ext_cell hb q2, ext_cell hb q3⟩
  have CK : Hid (Calls Tryz.prog 16 #[.agg #[.int .i64 (sh : Int), .slice la l.length lc]] ((w.alloc (.cells #[.int .i64 (sh : Int), .slice la l.length lc] 24)).alloc (.cells #[.slice sa S.st.length sc, .slice ra S.rd.length rc, .slice wa S.wr.length tc, .slice va S.vs.length vc] 29)) fun e w' => e = .returned (.int .i64 0) ∧ Below ((w.alloc (.cells #[.int .i64 (sh : Int), .slice la l.length lc] 24)).alloc (.cells #[.slice sa S.st.length sc, .slice ra S.rd.length rc, .slice wa S.wr.length tc, .slice va S.vs.length vc] 29)).heap.size ((w.alloc (.cells #[.int .i64 (sh : Int), .slice la l.length lc] 24)).alloc (.cells #[.slice sa S.st.length sc, .slice ra S.rd.length rc, .slice wa S.wr.length tc, .slice va S.vs.length vc] 29)) w') := by
    have h := checkPlan_any la lc l sh ((w.alloc (.cells #[.int .i64 (sh : Int), .slice la l.length lc] 24)).alloc (.cells #[.slice sa S.st.length sc, .slice ra S.rd.length rc, .slice wa S.wr.length tc, .slice va S.vs.length vc] 29)) (hl.below hW.out)
    rw [hp] at h
    exact h
  have HS : Hid (Sta ((w.alloc (.cells #[.int .i64 (sh : Int), .slice la l.length lc] 24)).alloc (.cells #[.slice sa S.st.length sc, .slice ra S.rd.length rc, .slice wa S.wr.length tc, .slice va S.vs.length vc] 29)) sa ra wa va S) := hs.below hW.out
  have HL : Hid (IsTxs ((w.alloc (.cells #[.int .i64 (sh : Int), .slice la l.length lc] 24)).alloc (.cells #[.slice sa S.st.length sc, .slice ra S.rd.length rc, .slice wa S.wr.length tc, .slice va S.vs.length vc] 29)) la l) := hl.below hW.out
  have HE : Hid (stE sh l S = if (lens l S && (List.range l.length).all (rowC sh l S)) = true then 0 else 1) := by
    show _ = _
    unfold stE
    rw [if_pos hp]
    show (if (formB sh l S && truthB sh l S) = true then (0 : Int) else 1) = _
    rw [form_rows]
  clear hl hs hp hc h1 h4' p0 p1 q0 q1 q2 q3
  generalize stE sh l S = R at *
  go_enter Tryz.func19, Tryz.ntmps19
  go_upto_region 1 with fail
  generalize ((w.alloc (.cells #[.int .i64 (sh : Int), .slice la l.length lc] 24)).alloc (.cells #[.slice sa S.st.length sc, .slice ra S.rd.length rc, .slice wa S.wr.length tc, .slice va S.vs.length vc] 29)) = W at *
  obtain ⟨p0, p1, q0, q1, q2, q3⟩ := KEEP.out W (Below.refl _ _)
  go_wp2_with fail
  refine CK.out.mono ?_
  rintro e V ⟨rfl, hbV⟩
  have BV : Hid (Below W.heap.size W V) := hbV
  have BF : Hid (Below w.heap.size w V) := grow_trans hW.out hbV
  clear CK hbV p0 p1 q0 q1 q2 q3
  obtain ⟨p0, p1, q0, q1, q2, q3⟩ := KEEP.out V BV.out
  have CI : Hid (∀ w', Calls Tryz.prog 17 #[.slice sa S.st.length sc] w' fun e w'' => e = .returned (.bool (decide (S.st.length = 8))) ∧ w'' = w') := fun w' => isStore_any S.st sa sc w'
  have HL1 : Hid (lens l S = false → R = 1) := fun h => by rw [HE.out, h]; rfl
  go_upto_region 4 with fail
  by_cases g0 : S.st.length = 8
  rotate_left
  · obtain rfl : R = 1 := HL1.out (by unfold lens; rw [decide_eq_false g0]; rfl)
    have CI' : Hid (∀ w', Calls Tryz.prog 17 #[.slice sa S.st.length sc] w' fun e w'' => e = .returned (.bool false) ∧ w'' = w') := by
      have h := CI.out
      rw [decide_eq_false g0] at h
      exact h
    clear CI HE HL1 g0
    go_wp2_with (go_at_call 17; refine (CI'.out _).mono ?_; rintro e w2 ⟨rfl, rfl⟩)
    go_ret
    exact ⟨rfl, BF.out⟩
  have CI' : Hid (∀ w', Calls Tryz.prog 17 #[.slice sa S.st.length sc] w' fun e w'' => e = .returned (.bool true) ∧ w'' = w') := by
    have h := CI.out
    rw [decide_eq_true g0] at h
    exact h
  clear CI
  by_cases g1 : S.rd.length = l.length
  rotate_left
  · obtain rfl : R = 1 := HL1.out (by unfold lens; rw [decide_eq_false g1]; simp)
    have j1 : ((S.rd.length : Int) != (l.length : Int)) = true := by rw [bne_iff_ne]; omega
    clear HE HL1 g0 g1
    go_wp2_with (go_at_call 17; refine (CI'.out _).mono ?_; rintro e w2 ⟨rfl, rfl⟩)
    go_ret
    exact ⟨rfl, BF.out⟩
  by_cases g2 : S.wr.length = l.length
  rotate_left
  · obtain rfl : R = 1 := HL1.out (by unfold lens; rw [decide_eq_false g2]; simp)
    have j1 : ((S.rd.length : Int) != (l.length : Int)) = false := by rw [bne_eq_false_iff_eq]; omega
    have j2 : ((S.wr.length : Int) != (l.length : Int)) = true := by rw [bne_iff_ne]; omega
    clear HE HL1 g0 g1 g2
    go_wp2_with (go_at_call 17; refine (CI'.out _).mono ?_; rintro e w2 ⟨rfl, rfl⟩)
    go_ret
    exact ⟨rfl, BF.out⟩
  by_cases g3 : S.vs.length = l.length
  rotate_left
  · obtain rfl : R = 1 := HL1.out (by unfold lens; rw [decide_eq_false g3]; simp)
    have j1 : ((S.rd.length : Int) != (l.length : Int)) = false := by rw [bne_eq_false_iff_eq]; omega
    have j2 : ((S.wr.length : Int) != (l.length : Int)) = false := by rw [bne_eq_false_iff_eq]; omega
    have j3 : ((S.vs.length : Int) != (l.length : Int)) = true := by rw [bne_iff_ne]; omega
    clear HE HL1 g0 g1 g2 g3
    go_wp2_with (go_at_call 17; refine (CI'.out _).mono ?_; rintro e w2 ⟨rfl, rfl⟩)
    go_ret
    exact ⟨rfl, BF.out⟩
  have j1 : ((S.rd.length : Int) != (l.length : Int)) = false := by rw [bne_eq_false_iff_eq]; omega
  have j2 : ((S.wr.length : Int) != (l.length : Int)) = false := by rw [bne_eq_false_iff_eq]; omega
  have j3 : ((S.vs.length : Int) != (l.length : Int)) = false := by rw [bne_eq_false_iff_eq]; omega
  have HE2 : Hid (R = if (List.range l.length).all (rowC sh l S) = true then 0 else 1) := by
    show _ = _
    rw [HE.out]
    unfold lens
    rw [decide_eq_true g0, decide_eq_true g1, decide_eq_true g2, decide_eq_true g3]
    rfl
  have G1 : Hid (S.rd.length = l.length) := g1
  have G2 : Hid (S.wr.length = l.length) := g2
  have G3 : Hid (S.vs.length = l.length) := g3
  clear HE HL1 g0 g1 g2 g3
  go_upto_region 6 with (go_at_call 17; refine (CI'.out _).mono ?_; rintro e w2 ⟨rfl, rfl⟩)
  clear CI' j1 j2 j3 p0 p1 q0 q1 q2 q3
  go_wp2
  go_loopw [6] (fun i wr => ∃ n : Nat, n ≤ l.length ∧ i = .int .i64 n ∧ Hid ((List.range n).all (rowC sh l S) = true) ∧ Hid (Below W.heap.size W wr)) (fun i _ => l.length - (intOf i).toNat)
  case atStart => exact ⟨0, Nat.zero_le _, rfl, rfl, BV⟩
  case round =>
    clear BV BF
    obtain ⟨n, hn, rfl, hall, BV⟩ := hrel
    obtain ⟨p0, p1, q0, q1, q2, q3⟩ := KEEP.out wr BV.out
    have BF : Hid (Below w.heap.size w wr) := grow_trans hW.out BV.out
    by_cases hlt : n < l.length
    · have i1 : (n : Int) < (l.length : Int) := by omega
      obtain ⟨b1, o1, a1, c1, e1, _, r1, _, _⟩ := (HS.out.below BV.out).rd n (by rw [G1.out]; exact hlt)
      obtain ⟨b2, o2, a2, c2, e2, _, r2, _, _⟩ := (HS.out.below BV.out).wr n (by rw [G2.out]; exact hlt)
      obtain ⟨b3, o3, a3, c3, e3, _, r3, _, _⟩ := (HS.out.below BV.out).vs n (by rw [G3.out]; exact hlt)
      obtain ⟨tb, tof, e5, _, t0', t1, t2, _⟩ := (HL.out.below BV.out) n hlt
      have HST : Hid (rowC sh l S n = false → R = 1) := fun h => by rw [HE2.out, all_stop hlt h]; rfl
      have HNX0 : Hid (rowC sh l S n = true → (List.range (n + 1)).all (rowC sh l S) = true) := fun h => by rw [all_to, hall.out, h]; rfl
      have hRC : Hid (rowC sh l S n = (rowF sh l S n && (List.range sh).all (rowB sh l S n))) := rfl
      have hRF : Hid (rowF sh l S n = (decide ((S.rd.getD n []).length = sh) && decide ((S.wr.getD n []).length = sh) && decide ((S.vs.getD n []).length = (gX l n).rs.length))) := rfl
      have t0 : wr.cell? ⟨tb, tof + n * 3, none⟩ = some (.slice (gX l n).ra (gX l n).rs.length (gX l n).rc) := t0'
      clear t0' t1 t2 hall
      rw [e1, G1.out] at q1
      rw [e2, G2.out] at q2
      rw [e3, G3.out] at q3
      rw [e5] at p1
      obtain ⟨N1, eN1⟩ : ∃ x, (S.rd.getD n []).length = x := ⟨_, rfl⟩
      obtain ⟨N2, eN2⟩ : ∃ x, (S.wr.getD n []).length = x := ⟨_, rfl⟩
      obtain ⟨N3, eN3⟩ : ∃ x, (S.vs.getD n []).length = x := ⟨_, rfl⟩
      obtain ⟨N4, eN4⟩ : ∃ x, (gX l n).rs.length = x := ⟨_, rfl⟩
      rw [eN1] at r1 hRF
      rw [eN2] at r2 hRF
      rw [eN3] at r3 hRF
      rw [eN4] at t0 hRF
      by_cases f1 : N1 = sh
      rotate_left
      · obtain rfl : R = 1 := HST.out (by rw [hRC.out, hRF.out, decide_eq_false f1]; rfl)
        have j1 : ((N1 : Int) != (sh : Int)) = true := by rw [bne_iff_ne]; omega
        have BFN : ∀ N, Hid (Below w.heap.size w (wr.drewN N)) := fun N => drewN_grow BF.out N
        clear HST HNX0 hRC hRF HE2 HS HL G1 G2 G3 KEEP f1 e1 e2 e3 e5 eN1 eN2 eN3 eN4
        go_upto_region 9 with fail
        go_quiet (fail)
        go_wp2
        go_ret
        exact ⟨rfl, (BFN _).out⟩
      by_cases f2 : N2 = sh
      rotate_left
      · obtain rfl : R = 1 := HST.out (by rw [hRC.out, hRF.out, decide_eq_false f2]; simp)
        have j1 : ((N1 : Int) != (sh : Int)) = false := by rw [bne_eq_false_iff_eq]; omega
        have j2 : ((N2 : Int) != (sh : Int)) = true := by rw [bne_iff_ne]; omega
        have BFN : ∀ N, Hid (Below w.heap.size w (wr.drewN N)) := fun N => drewN_grow BF.out N
        clear HST HNX0 hRC hRF HE2 HS HL G1 G2 G3 KEEP f1 f2 e1 e2 e3 e5 eN1 eN2 eN3 eN4
        go_upto_region 9 with fail
        go_quiet (fail)
        go_wp2
        go_ret
        exact ⟨rfl, (BFN _).out⟩
      by_cases f3 : N3 = N4
      rotate_left
      · obtain rfl : R = 1 := HST.out (by rw [hRC.out, hRF.out, decide_eq_false f3]; simp)
        have j1 : ((N1 : Int) != (sh : Int)) = false := by rw [bne_eq_false_iff_eq]; omega
        have j2 : ((N2 : Int) != (sh : Int)) = false := by rw [bne_eq_false_iff_eq]; omega
        have j3 : ((N3 : Int) != (N4 : Int)) = true := by rw [bne_iff_ne]; omega
        have BFN : ∀ N, Hid (Below w.heap.size w (wr.drewN N)) := fun N => drewN_grow BF.out N
        clear HST HNX0 hRC hRF HE2 HS HL G1 G2 G3 KEEP f1 f2 e1 e2 e3 e5 eN1 eN2 eN3 eN4
        go_upto_region 9 with fail
        go_quiet (fail)
        go_wp2
        go_ret
        exact ⟨rfl, (BFN _).out⟩
      rw [f1] at r1
      rw [f2] at r2
      rw [f3] at r3
      have HRC : Hid (rowC sh l S n = (List.range sh).all (rowB sh l S n)) := by
        show _ = _
        rw [hRC.out, hRF.out, decide_eq_true f1, decide_eq_true f2, decide_eq_true f3]
        rfl
      have F1 : Hid ((S.rd.getD n []).length = sh) := eN1.trans f1
      have F2 : Hid ((S.wr.getD n []).length = sh) := eN2.trans f2
      clear hRC hRF f1 f2 f3 eN1 eN2 eN3 eN4
      have CPA : Hid (∀ w1, Below W.heap.size W w1 → Calls Tryz.prog 53 #[.agg #[.int .i64 sh, .slice la l.length lc], .int .i64 n] w1 fun e w' => ∃ a c, e = .returned (.slice a sh c) ∧ Hid (∀ k, k < sh → ∃ b o, a = some ⟨b, o, none⟩ ∧ w'.cell? ⟨b, o + k, none⟩ = some (.bool (ptB sh (gX l n) k))) ∧ Below w1.heap.size w1 w') := fun w1 hb => by
        refine (partOf_any la lc l sh n _ (HL.out.below hb) (hpn n hlt)).mono ?_
        rintro e w2 ⟨a, c, rfl, hbs, hb2⟩
        have hL := marks_len sh (keysIn (locksAt l n))
        refine ⟨a, c, by rw [hL], fun k hk => ?_, hb2⟩
        obtain ⟨b3, o3, ea, _, d3⟩ := hbs k (by rw [hL]; exact hk)
        exact ⟨b3, o3, ea, d3⟩
      have CAA : Hid (∀ w1, Below W.heap.size W w1 → Calls Tryz.prog 54 #[.agg #[.int .i64 sh, .slice la l.length lc], .int .i64 n] w1 fun e w' => ∃ a c, e = .returned (.slice a sh c) ∧ Hid (∀ k, k < sh → ∃ b o, a = some ⟨b, o, none⟩ ∧ w'.cell? ⟨b, o + k, none⟩ = some (.bool (acB sh (gX l n) k))) ∧ Below w1.heap.size w1 w') := fun w1 hb => by
        refine (activeOf_any la lc l sh n _ (HL.out.below hb) (hpn n hlt)).mono ?_
        rintro e w2 ⟨a, c, rfl, hbs, hb2⟩
        have hL := marks_len sh (setsIn (locksAt l n))
        refine ⟨a, c, by rw [hL], fun k hk => ?_, hb2⟩
        obtain ⟨b3, o3, ea, _, d3⟩ := hbs k (by rw [hL]; exact hk)
        exact ⟨b3, o3, ea, d3⟩
      have CAR : Hid (∀ w1, Below W.heap.size W w1 → Calls Tryz.prog 55 #[.agg #[.int .i64 (sh : Int), .slice la l.length lc], .agg #[.slice sa S.st.length sc, .slice ra S.rd.length rc, .slice wa S.wr.length tc, .slice va S.vs.length vc], .int .i64 n] w1 fun e w' => e = .returned (.bool (allRd sh l S n)) ∧ Below w1.heap.size w1 w') := fun w1 hb => docAllRead_row la lc l sa ra wa va sc rc tc vc S sh n w1 (HL.out.below hb) (HS.out.below hb) (hpn n hlt) G1.out F1.out hlt h0 h4 h8
      go_upto_region 9 with fail
      go_quiet (fail)
      go_upto_region 11 with fail
      clear p0 p1 q0 q1 q2 q3 r1 r2 r3 t0 e1 e2 e3 e5 BF
      obtain ⟨V, eV, BV'⟩ : ∃ V, wr.drewN nq = V ∧ Hid (Below W.heap.size W V) := ⟨_, rfl, drewN_grow BV.out _⟩
      rw [eV]
      clear eV BV
      obtain ⟨p0, p1, q0, q1, q2, q3⟩ := KEEP.out V BV'.out
      have KS : Hid (∀ w', Below V.heap.size V w' → w'.cell? ⟨w.heap.size, 0, none⟩ = some (.int .i64 (sh : Int)) ∧ w'.cell? ⟨w.heap.size, 1, none⟩ = some (.slice la l.length lc) ∧ Hid (Below V.heap.size V w')) := fun w' hb => ⟨ext_cell hb p0, ext_cell hb p1, hb⟩
      go_cut [7, 8] (fun u v wx => ∃ a c a' c', u = .slice a sh c ∧ v = .slice a' sh c' ∧ Hid (∀ k, k < sh → ∃ b o, a = some ⟨b, o, none⟩ ∧ wx.cell? ⟨b, o + k, none⟩ = some (.bool (ptB sh (gX l n) k))) ∧ Hid (∀ k, k < sh → ∃ b o, a' = some ⟨b, o, none⟩ ∧ wx.cell? ⟨b, o + k, none⟩ = some (.bool (acB sh (gX l n) k))) ∧ Hid (Below V.heap.size V wx))
      case first =>
        clear p0 p1 q0 q1 q2 q3
        go_region_held3 (fun w' => w'.cell? ⟨w.heap.size, 0, none⟩ = some (.int .i64 (sh : Int)) ∧ w'.cell? ⟨w.heap.size, 1, none⟩ = some (.slice la l.length lc) ∧ Hid (Below V.heap.size V w')) ((refine KS.out _ ?_; go_split_ands; repeat (first | assumption | exact Below.refl _ _ | exact Hid.out (by assumption) | refine grow_drew ?_ | refine grow_alloc ?_ _ | refine grow_trans ?_ (by assumption))))
          (first
            | (go_at_call 53; refine (CPA.out _ (grow_trans BV'.out ?_)).mono ?_; (go_split_ands; repeat (first | assumption | exact Below.refl _ _ | exact Hid.out (by assumption) | refine grow_drew ?_ | refine grow_alloc ?_ _ | refine grow_trans ?_ (by assumption))); rintro e w1 ⟨a1, c1, rfl, hp1, hb1⟩)
            | (go_at_call 54; refine (CAA.out _ (grow_trans BV'.out ?_)).mono ?_; (go_split_ands; repeat (first | assumption | exact Below.refl _ _ | exact Hid.out (by assumption) | refine grow_drew ?_ | refine grow_alloc ?_ _ | refine grow_trans ?_ (by assumption))); rintro e w2 ⟨a2, c2, rfl, hp2, hb2⟩))
        all_goals (go_wp2_with fail; go_meet)
        all_goals (
          go_split_ands
          refine ⟨a1, c1, a2, c2, rfl, rfl, fun k hk => ?_, hp2, Hid.out (by assumption)⟩
          obtain ⟨b, o, e, d⟩ := hp1.out k hk
          exact ⟨b, o, e, ext_cell hb2 d⟩)
      case rest =>
        obtain ⟨a1, c1, a2, c2, rfl, rfl, HP1, HP2, hbc⟩ := hcut
        obtain ⟨V2, hren⟩ : ∃ V2 : World, V2 = wc := ⟨_, rfl⟩
        subst hren
        have BV2 : Hid (Below W.heap.size W V2) := grow_trans BV'.out hbc.out
        have HB0 : Hid (Below V2.heap.size V2 V2) := Below.refl _ _
        clear hbc KS p0 p1 q0 q1 q2 q3 CPA CAA BV'
        go_wp2
        go_loopw [9] (fun i wq => ∃ k : Nat, k ≤ sh ∧ i = .int .i64 k ∧ Hid ((List.range k).all (rowB sh l S n) = true) ∧ Hid (Below V2.heap.size V2 wq)) (fun i _ => sh - (intOf i).toNat)
        case atStart => exact ⟨0, Nat.zero_le _, rfl, rfl, HB0⟩
        case round =>
          clear HB0
          obtain ⟨k, hk, rfl, hall, hB⟩ := hrel
          have BQ : Hid (Below W.heap.size W wr) := grow_trans BV2.out hB.out
          have BF : Hid (Below w.heap.size w wr) := grow_trans hW.out BQ.out
          obtain ⟨p0, p1, q0, q1, q2, q3⟩ := KEEP.out wr BQ.out
          by_cases hlk : k < sh
          · have i3 : (k : Int) < (sh : Int) := by omega
            obtain ⟨b5, o5, ep, d5⟩ := HP1.out k hlk
            obtain ⟨b6, o6, ea, d6⟩ := HP2.out k hlk
            subst ep ea
            have d5' := ext_cell hB.out d5
            have d6' := ext_cell hB.out d6
            clear d5 d6
            obtain ⟨b1, o1, b1', o1', c1', e1, r1, s1⟩ := (HS.out.below BQ.out).rd.row (n := n) (by rw [G1.out]; exact hlt) F1.out h0
            obtain ⟨b2, o2, b2', o2', c2', e2, r2, s2⟩ := (HS.out.below BQ.out).wr.row (n := n) (by rw [G2.out]; exact hlt) F2.out h0
            have r1' := s1 k hlk
            have r2' := s2 k hlk
            clear s1 s2
            have HG : Hid (rowB sh l S n k = ((!at2 S.rd n k || ptB sh (gX l n) k) && (!at2 S.wr n k || (acB sh (gX l n) k && allRd sh l S n)))) := rfl
            have HR1 : Hid (rowB sh l S n k = false → R = 1) := fun h => HST.out (by rw [HRC.out]; exact all_stop hlk h)
            have HNX : Hid (rowB sh l S n k = true → (List.range (k + 1)).all (rowB sh l S n) = true) := fun h => by rw [all_to, hall.out, h]; rfl
            have CAR1 : Hid (Calls Tryz.prog 55 #[.agg #[.int .i64 (sh : Int), .slice la l.length lc], .agg #[.slice sa S.st.length sc, .slice ra S.rd.length rc, .slice wa S.wr.length tc, .slice va S.vs.length vc], .int .i64 n] wr fun e w' => e = .returned (.bool (allRd sh l S n)) ∧ Below wr.heap.size wr w') := CAR.out wr BQ.out
            rw [e1, G1.out] at CAR1 q1
            rw [e2, G2.out] at CAR1 q2
            clear hall HE2 HST HNX0 HRC HS HL KEEP CAR G3 F1 F2 e1 e2 HP1 HP2
            generalize rowB sh l S n k = G at *
            generalize ptB sh (gX l n) k = P at *
            generalize at2 S.rd n k = Q at *
            generalize acB sh (gX l n) k = T at *
            generalize at2 S.wr n k = U at *
            generalize allRd sh l S n = AA at *
            by_cases hQP : Q = true ∧ P = false
            · obtain ⟨rfl, rfl⟩ := hQP
              obtain rfl : R = 1 := HR1.out HG.out
              clear HG HR1 HNX
              go_wp2
              go_ret
              exact ⟨rfl, BF.out⟩
            · have hPQ : (!Q || P) = true := by cases Q <;> cases P <;> simp_all
              have HG2 : Hid (G = (!U || (T && AA))) := by show _ = _; rw [HG.out, hPQ, Bool.true_and]
              clear HG
              have hcase : (Q = false) ∨ (Q = true ∧ P = true) := by cases Q <;> cases P <;> simp_all
              clear hQP hPQ
              rcases hcase with rfl | ⟨rfl, rfl⟩
              all_goals (
                cases U with
                | false =>
                  have hal := HNX.out HG2.out
                  clear HR1 HNX HG2
                  go_wp2
                  go_roundw
                  case rel => exact ⟨k + 1, by omega, by go_num, hal, hB⟩
                  case measure => simp [intOf]; omega
                | true =>
                  cases T with
                  | false =>
                    obtain rfl : R = 1 := HR1.out HG2.out
                    clear HR1 HNX HG2
                    go_wp2
                    go_ret
                    exact ⟨rfl, BF.out⟩
                  | true =>
                    go_wp2_with fail
                    refine CAR1.out.mono ?_
                    rintro e w3 ⟨rfl, hb3⟩
                    have hB3 : Hid (Below V2.heap.size V2 w3) := grow_trans hB.out hb3
                    have BF3 : Hid (Below w.heap.size w w3) := grow_trans BF.out hb3
                    clear hb3 CAR1 d5' d6' r1 r2 r1' r2' p0 p1 q0 q1 q2 q3 hB BF BQ
                    cases AA with
                    | true =>
                      have hal := HNX.out HG2.out
                      clear HR1 HNX HG2
                      go_wp2
                      go_roundw
                      case rel => exact ⟨k + 1, by omega, by go_num, hal, hB3⟩
                      case measure => simp [intOf]; omega
                    | false =>
                      obtain rfl : R = 1 := HR1.out HG2.out
                      clear HR1 HNX HG2
                      go_wp2
                      go_ret
                      exact ⟨rfl, BF3.out⟩)
          · have hkk : k = sh := by omega
            have hal : Hid ((List.range (n + 1)).all (rowC sh l S) = true) := HNX0.out (by rw [HRC.out]; have h := hall.out; rw [hkk] at h; exact h)
            have i3 : ¬ (k : Int) < (sh : Int) := by omega
            go_wp2
            go_roundw
            case rel => exact ⟨n + 1, by omega, by go_num, hal, BQ⟩
            case measure => simp [intOf]; omega
    · have hnn : n = l.length := by omega
      have hal := hall.out
      rw [hnn] at hal
      obtain rfl : R = 0 := by rw [HE2.out, hal]; rfl
      have i1 : ¬ (n : Int) < (l.length : Int) := by omega
      go_wp2
      go_ret
      exact ⟨rfl, BF.out⟩

set_option maxRecDepth 100000 in
set_option maxHeartbeats 2000000 in
/-- The document's CheckState. -/
theorem docCheck_any (m : Int) (w : World) (hl : IsTxs w la l) (hs : Sta w sa ra wa va S) :
    Calls Tryz.prog 19 #[.agg #[.int .i64 m, .slice la l.length lc], .agg #[.slice sa S.st.length sc, .slice ra S.rd.length rc, .slice wa S.wr.length tc, .slice va S.vs.length vc]] w fun e w' => e = .returned (.int .i64 (stE m l S)) ∧ Below w.heap.size w w' := by
  by_cases hp : planE m l = 0
  · obtain ⟨h1, _, _⟩ := planE_zero hp
    obtain ⟨sh, rfl⟩ : ∃ sh : Nat, m = sh := ⟨m.toNat, by omega⟩
    exact docCheck_ok la lc l sa ra wa va sc rc tc vc S sh w hl hs hp
  · have e0 : stE m l S = planE m l := if_neg hp
    rw [e0]
    have hW : Hid (Below w.heap.size w ((w.alloc (.cells #[.int .i64 m, .slice la l.length lc] 24)).alloc (.cells #[.slice sa S.st.length sc, .slice ra S.rd.length rc, .slice wa S.wr.length tc, .slice va S.vs.length vc] 29))) := grow_alloc (grow_alloc (Below.refl _ _) _) _
    have p0 : ((w.alloc (.cells #[.int .i64 m, .slice la l.length lc] 24)).alloc (.cells #[.slice sa S.st.length sc, .slice ra S.rd.length rc, .slice wa S.wr.length tc, .slice va S.vs.length vc] 29)).cell? ⟨w.heap.size, 0, none⟩ = some (.int .i64 m) := ext_cell (grow_alloc (Below.refl _ _) _) (at_new w _ 24 _ 0 _ rfl rfl)
    have p1 : ((w.alloc (.cells #[.int .i64 m, .slice la l.length lc] 24)).alloc (.cells #[.slice sa S.st.length sc, .slice ra S.rd.length rc, .slice wa S.wr.length tc, .slice va S.vs.length vc] 29)).cell? ⟨w.heap.size, 1, none⟩ = some (.slice la l.length lc) := ext_cell (grow_alloc (Below.refl _ _) _) (at_new w _ 24 _ 1 _ rfl rfl)
    have CK : Hid (Calls Tryz.prog 16 #[.agg #[.int .i64 m, .slice la l.length lc]] ((w.alloc (.cells #[.int .i64 m, .slice la l.length lc] 24)).alloc (.cells #[.slice sa S.st.length sc, .slice ra S.rd.length rc, .slice wa S.wr.length tc, .slice va S.vs.length vc] 29)) fun e w' => e = .returned (.int .i64 (planE m l)) ∧ Below ((w.alloc (.cells #[.int .i64 m, .slice la l.length lc] 24)).alloc (.cells #[.slice sa S.st.length sc, .slice ra S.rd.length rc, .slice wa S.wr.length tc, .slice va S.vs.length vc] 29)).heap.size ((w.alloc (.cells #[.int .i64 m, .slice la l.length lc] 24)).alloc (.cells #[.slice sa S.st.length sc, .slice ra S.rd.length rc, .slice wa S.wr.length tc, .slice va S.vs.length vc] 29)) w') := checkPlan_any la lc l m ((w.alloc (.cells #[.int .i64 m, .slice la l.length lc] 24)).alloc (.cells #[.slice sa S.st.length sc, .slice ra S.rd.length rc, .slice wa S.wr.length tc, .slice va S.vs.length vc] 29)) (hl.below hW.out)
    have hne : (planE m l != 0) = true := by simpa using hp
    clear hl hs e0 hp
    generalize planE m l = E at *
    go_enter Tryz.func19, Tryz.ntmps19
    go_upto_region 1 with fail
    generalize ((w.alloc (.cells #[.int .i64 m, .slice la l.length lc] 24)).alloc (.cells #[.slice sa S.st.length sc, .slice ra S.rd.length rc, .slice wa S.wr.length tc, .slice va S.vs.length vc] 29)) = W at *
    go_wp2_with fail
    refine CK.out.mono ?_
    rintro e V ⟨rfl, hbV⟩
    have BF : Hid (Below w.heap.size w V) := grow_trans hW.out hbV
    clear CK hbV p0 p1
    go_wp2
    go_ret
    exact ⟨rfl, BF.out⟩
end Go.Proofs.YtebjkmknhpgemaaGreat

namespace Go.Proofs.YtebjkmknhpgemaaGreat
open Go.RowKit

variable (la : Option Addr) (lc : Nat) (l : List TxA) (sa ra wa va : Option Addr) (sc rc tc vc : Nat) (S : SA)

/-- The document's CanOf of a right state. -/
theorem docCan_st (m : Int) (w : World) (hl : IsTxs w la l) (hs : Sta w sa ra wa va S) (h : stE m l S = 0) :
    Calls Tryz.prog 25 #[.agg #[.int .i64 m, .slice la l.length lc], .agg #[.slice sa S.st.length sc, .slice ra S.rd.length rc, .slice wa S.wr.length tc, .slice va S.vs.length vc]] w fun e w' => ∃ a c, e = .returned (.slice a (canE m l S).length c) ∧ IsSteps w' a (canE m l S) ∧ Below w.heap.size w w' := by
  have e2 : canE m l S = canL m.toNat l S := if_pos h
  rw [e2]
  obtain ⟨sh, rfl, h0, h4, hc, hp, hf, _⟩ := stE_zero h
  exact docCan_any la lc l sa ra wa va sc rc tc vc S sh w hl hs (fun a ha => pnE_in hp ha) (formB_iff.1 hf) (chkL_len hc) h4

set_option maxRecDepth 100000 in
set_option maxHeartbeats 4000000 in
theorem stepsCan_walk (m : Int) (w : World) (hl : IsTxs w la l) (hs : Sta w sa ra wa va S) :
    Calls Tryz.prog 4 #[.agg #[.int .i64 m, .slice la l.length lc], .agg #[.slice sa S.st.length sc, .slice ra S.rd.length rc, .slice wa S.wr.length tc, .slice va S.vs.length vc]] w fun e w' => e = .returned (.bool true) ∧ Below w.heap.size w w' := by
  have he48 := eqIn48
  have hg : Below w.heap.size w ((w.alloc (.cells #[.int .i64 m, .slice la l.length lc] 24)).alloc (.cells #[.slice sa S.st.length sc, .slice ra S.rd.length rc, .slice wa S.wr.length tc, .slice va S.vs.length vc] 29)) := (grow_alloc (grow_alloc (Below.refl _ _) _) _)
  have HG : Hid (Below w.heap.size w ((w.alloc (.cells #[.int .i64 m, .slice la l.length lc] 24)).alloc (.cells #[.slice sa S.st.length sc, .slice ra S.rd.length rc, .slice wa S.wr.length tc, .slice va S.vs.length vc] 29))) := hg
  have HBB : Hid (∀ w, Calls Tryz.prog 20 #[] w fun e w' => e = .returned (.bool true) ∧ Below w.heap.size w w') := stepsBegun_any
  have p0 : ((w.alloc (.cells #[.int .i64 m, .slice la l.length lc] 24)).alloc (.cells #[.slice sa S.st.length sc, .slice ra S.rd.length rc, .slice wa S.wr.length tc, .slice va S.vs.length vc] 29)).cell? ⟨w.heap.size, 0, none⟩ = some (.int .i64 m) := ext_cell (grow_alloc (Below.refl _ _) _) (at_new _ _ 24 _ 0 _ (by first | rfl | simp) rfl)
  have p1 : ((w.alloc (.cells #[.int .i64 m, .slice la l.length lc] 24)).alloc (.cells #[.slice sa S.st.length sc, .slice ra S.rd.length rc, .slice wa S.wr.length tc, .slice va S.vs.length vc] 29)).cell? ⟨w.heap.size, 1, none⟩ = some (.slice la l.length lc) := ext_cell (grow_alloc (Below.refl _ _) _) (at_new _ _ 24 _ 1 _ (by first | rfl | simp) rfl)
  have q0 : ((w.alloc (.cells #[.int .i64 m, .slice la l.length lc] 24)).alloc (.cells #[.slice sa S.st.length sc, .slice ra S.rd.length rc, .slice wa S.wr.length tc, .slice va S.vs.length vc] 29)).cell? ⟨w.heap.size + 1, 0, none⟩ = some (.slice sa S.st.length sc) := ext_cell (Below.refl _ _) (at_new _ _ 29 _ 0 _ (by first | rfl | simp) rfl)
  have q1 : ((w.alloc (.cells #[.int .i64 m, .slice la l.length lc] 24)).alloc (.cells #[.slice sa S.st.length sc, .slice ra S.rd.length rc, .slice wa S.wr.length tc, .slice va S.vs.length vc] 29)).cell? ⟨w.heap.size + 1, 1, none⟩ = some (.slice ra S.rd.length rc) := ext_cell (Below.refl _ _) (at_new _ _ 29 _ 1 _ (by first | rfl | simp) rfl)
  have q2 : ((w.alloc (.cells #[.int .i64 m, .slice la l.length lc] 24)).alloc (.cells #[.slice sa S.st.length sc, .slice ra S.rd.length rc, .slice wa S.wr.length tc, .slice va S.vs.length vc] 29)).cell? ⟨w.heap.size + 1, 2, none⟩ = some (.slice wa S.wr.length tc) := ext_cell (Below.refl _ _) (at_new _ _ 29 _ 2 _ (by first | rfl | simp) rfl)
  have q3 : ((w.alloc (.cells #[.int .i64 m, .slice la l.length lc] 24)).alloc (.cells #[.slice sa S.st.length sc, .slice ra S.rd.length rc, .slice wa S.wr.length tc, .slice va S.vs.length vc] 29)).cell? ⟨w.heap.size + 1, 3, none⟩ = some (.slice va S.vs.length vc) := ext_cell (Below.refl _ _) (at_new _ _ 29 _ 3 _ (by first | rfl | simp) rfl)
  have KEEP : Hid (∀ w', Below ((w.alloc (.cells #[.int .i64 m, .slice la l.length lc] 24)).alloc (.cells #[.slice sa S.st.length sc, .slice ra S.rd.length rc, .slice wa S.wr.length tc, .slice va S.vs.length vc] 29)).heap.size ((w.alloc (.cells #[.int .i64 m, .slice la l.length lc] 24)).alloc (.cells #[.slice sa S.st.length sc, .slice ra S.rd.length rc, .slice wa S.wr.length tc, .slice va S.vs.length vc] 29)) w' → w'.cell? ⟨w.heap.size, 0, none⟩ = some (.int .i64 m) ∧ w'.cell? ⟨w.heap.size, 1, none⟩ = some (.slice la l.length lc) ∧ w'.cell? ⟨w.heap.size + 1, 0, none⟩ = some (.slice sa S.st.length sc) ∧ w'.cell? ⟨w.heap.size + 1, 1, none⟩ = some (.slice ra S.rd.length rc) ∧ w'.cell? ⟨w.heap.size + 1, 2, none⟩ = some (.slice wa S.wr.length tc) ∧ w'.cell? ⟨w.heap.size + 1, 3, none⟩ = some (.slice va S.vs.length vc)) := fun w' hb => ⟨ext_cell hb p0, ext_cell hb p1, ext_cell hb q0, ext_cell hb q1, ext_cell hb q2, ext_cell hb q3⟩
  have CN : Hid (Calls Tryz.prog 24 #[.agg #[.int .i64 m, .slice la l.length lc], .agg #[.slice sa S.st.length sc, .slice ra S.rd.length rc, .slice wa S.wr.length tc, .slice va S.vs.length vc]] ((w.alloc (.cells #[.int .i64 m, .slice la l.length lc] 24)).alloc (.cells #[.slice sa S.st.length sc, .slice ra S.rd.length rc, .slice wa S.wr.length tc, .slice va S.vs.length vc] 29)) fun e w' => ∃ a c, e = .returned (.tuple #[.slice a (canE m l S).length c, .int .i64 (stE m l S)]) ∧ IsSteps w' a (canE m l S) ∧ Below ((w.alloc (.cells #[.int .i64 m, .slice la l.length lc] 24)).alloc (.cells #[.slice sa S.st.length sc, .slice ra S.rd.length rc, .slice wa S.wr.length tc, .slice va S.vs.length vc] 29)).heap.size ((w.alloc (.cells #[.int .i64 m, .slice la l.length lc] 24)).alloc (.cells #[.slice sa S.st.length sc, .slice ra S.rd.length rc, .slice wa S.wr.length tc, .slice va S.vs.length vc] 29)) w') := stepsCan_any la lc l sa ra wa va sc rc tc vc S m ((w.alloc (.cells #[.int .i64 m, .slice la l.length lc] 24)).alloc (.cells #[.slice sa S.st.length sc, .slice ra S.rd.length rc, .slice wa S.wr.length tc, .slice va S.vs.length vc] 29)) (hl.below hg) (hs.below hg)
  have CK : Hid (∀ w', Below ((w.alloc (.cells #[.int .i64 m, .slice la l.length lc] 24)).alloc (.cells #[.slice sa S.st.length sc, .slice ra S.rd.length rc, .slice wa S.wr.length tc, .slice va S.vs.length vc] 29)).heap.size ((w.alloc (.cells #[.int .i64 m, .slice la l.length lc] 24)).alloc (.cells #[.slice sa S.st.length sc, .slice ra S.rd.length rc, .slice wa S.wr.length tc, .slice va S.vs.length vc] 29)) w' → Calls Tryz.prog 19 #[.agg #[.int .i64 m, .slice la l.length lc], .agg #[.slice sa S.st.length sc, .slice ra S.rd.length rc, .slice wa S.wr.length tc, .slice va S.vs.length vc]] w' fun e w'' => e = .returned (.int .i64 (stE m l S)) ∧ Below w'.heap.size w' w'') := fun w' hb => docCheck_any la lc l sa ra wa va sc rc tc vc S m w' ((hl.below hg).below hb) ((hs.below hg).below hb)
  have CD : Hid (stE m l S = 0 → ∀ w', Below ((w.alloc (.cells #[.int .i64 m, .slice la l.length lc] 24)).alloc (.cells #[.slice sa S.st.length sc, .slice ra S.rd.length rc, .slice wa S.wr.length tc, .slice va S.vs.length vc] 29)).heap.size ((w.alloc (.cells #[.int .i64 m, .slice la l.length lc] 24)).alloc (.cells #[.slice sa S.st.length sc, .slice ra S.rd.length rc, .slice wa S.wr.length tc, .slice va S.vs.length vc] 29)) w' → Calls Tryz.prog 25 #[.agg #[.int .i64 m, .slice la l.length lc], .agg #[.slice sa S.st.length sc, .slice ra S.rd.length rc, .slice wa S.wr.length tc, .slice va S.vs.length vc]] w' fun e w'' => ∃ a c, e = .returned (.slice a (canE m l S).length c) ∧ IsSteps w'' a (canE m l S) ∧ Below w'.heap.size w' w'') := fun h w' hb => docCan_st la lc l sa ra wa va sc rc tc vc S m w' ((hl.below hg).below hb) ((hs.below hg).below hb) h
  have hL64 : (canE m l S).length ≤ 64 := by
    by_cases hst : stE m l S = 0
    · have e2 : canE m l S = canL m.toNat l S := if_pos hst
      obtain ⟨sh, rfl, _, h4, hc, _⟩ := stE_zero hst
      rw [e2]
      exact canL_len _ _ _ (chkL_len hc) (by simpa using h4)
    · have e2 : canE m l S = [] := if_neg hst
      rw [e2]
      simp
  have HN : Hid (¬ stE m l S = 0 → (canE m l S).length = 0) := fun h => by
    have e2 : canE m l S = [] := if_neg h
    rw [e2]
    rfl
  clear hl hs hg p0 p1 q0 q1 q2 q3
  generalize stE m l S = E at *
  generalize canE m l S = L at *
  go_enter Tryz.func4, Tryz.ntmps4
  go_upto_region 1 with fail
  generalize ((w.alloc (.cells #[.int .i64 m, .slice la l.length lc] 24)).alloc (.cells #[.slice sa S.st.length sc, .slice ra S.rd.length rc, .slice wa S.wr.length tc, .slice va S.vs.length vc] 29)) = W at *
  obtain ⟨p0, p1, q0, q1, q2, q3⟩ := KEEP.out W (Below.refl _ _)
  go_wp2_with fail
  refine CN.out.mono ?_
  rintro e w1 ⟨a, c, rfl, hst, hb1⟩
  have B1 : Hid (Below W.heap.size W w1) := hb1
  have ST1 : Hid (IsSteps w1 a L) := hst
  clear hb1 CN p0 p1 q0 q1 q2 q3 hst
  obtain ⟨p0, p1, q0, q1, q2, q3⟩ := KEEP.out w1 B1.out
  go_wp2_with fail
  refine (CK.out _ B1.out).mono ?_
  rintro e w2 ⟨rfl, hb2⟩
  have B2 : Hid (Below W.heap.size W w2) := grow_trans B1.out hb2
  have ST2 : Hid (IsSteps w2 a L) := ST1.out.below hb2
  clear hb2 CK p0 p1 q0 q1 q2 q3 B1 ST1
  obtain ⟨p0, p1, q0, q1, q2, q3⟩ := KEEP.out w2 B2.out
  by_cases hE : E = 0
  rotate_left
  · have hb : (E == 0) = false := by simpa using hE
    have hl0 := HN.out hE
    rw [hl0]
    have BW : Hid (Below w.heap.size w w2) := grow_trans HG.out B2.out
    clear HN CD ST2 KEEP p0 p1 q0 q1 q2 q3 hE hl0 B2 he48
    go_upto_region 9 with fail
    go_loop [9] (fun i => i = .int .i64 0) (fun _ => 0)
    case atStart => rfl
    case round =>
      subst hrel
      go_wp2_with fail
      refine (HBB.out _).mono ?_
      rintro e w3 ⟨rfl, hb3⟩
      have B3 : Hid (Below w.heap.size w w3) := grow_trans BW.out hb3
      clear hb3
      go_wp2
      go_ret
      exact ⟨by simp, B3.out⟩
  · subst hE
    have CD1 := CD.out rfl
    clear CD HN
    go_wp2_with fail
    refine (CD1 _ B2.out).mono ?_
    rintro e w3 ⟨a', c', rfl, hst', hb3⟩
    have B3 : Hid (Below W.heap.size W w3) := grow_trans B2.out hb3
    have ST3 : Hid (IsSteps w3 a L) := ST2.out.below hb3
    have ST3' : Hid (IsSteps w3 a' L) := hst'
    clear hb3 CD1 p0 p1 q0 q1 q2 q3 B2 ST2 hst' KEEP
    go_wp2
    go_loopw [9] (fun i wr => ∃ k : Nat, k ≤ L.length ∧ i = .int .i64 k ∧ Hid (Below w3.heap.size w3 wr)) (fun i _ => L.length - (intOf i).toNat)
    case atStart => exact ⟨0, Nat.zero_le _, rfl, Below.refl _ _⟩
    case round =>
      obtain ⟨k, hk, rfl, hB⟩ := hrel
      by_cases hlt : k < L.length
      · have i1 : (k : Int) < (L.length : Int) := by omega
        obtain ⟨b, off, ea, _, s0, s1, s2⟩ := (ST3.out.below hB.out) k hlt
        obtain ⟨b', off', ea', _, t0, t1, t2⟩ := (ST3'.out.below hB.out) k hlt
        subst ea ea'
        generalize ((L.getD k (0, 0, 0)).1 : Nat) = x1 at *
        generalize ((L.getD k (0, 0, 0)).2.1 : Nat) = x2 at *
        generalize ((L.getD k (0, 0, 0)).2.2 : Nat) = x3 at *
        have FIN : ∀ N, Hid (Below w3.heap.size w3 (wr.drewN N)) := fun N => drewN_grow hB.out N
        go_upto_region 11 with fail
        go_quiet (fail)
        go_wp2
        go_roundw
        case rel => exact ⟨k + 1, by omega, by go_num, FIN _⟩
        case measure => simp [intOf]; omega
      · have i1 : ¬ (k : Int) < (L.length : Int) := by omega
        have BW : Hid (Below w.heap.size w wr) := grow_trans HG.out (grow_trans B3.out hB.out)
        clear ST3 ST3' hB B3 he48
        go_wp2_with fail
        refine (HBB.out _).mono ?_
        rintro e w4 ⟨rfl, hb4⟩
        have B4 : Hid (Below w.heap.size w w4) := grow_trans BW.out hb4
        clear hb4
        go_wp2
        go_ret
        exact ⟨rfl, B4.out⟩
end Go.Proofs.YtebjkmknhpgemaaGreat

namespace Go.Proofs.YtebjkmknhpgemaaGreat
open Go.ChangeShapes Go.WideShapes Go.ChangeAt Go.RowKit Go.Deep

set_option maxRecDepth 100000 in
theorem stepsCan_lifted (os : Os) (started : os.Started) (H : Type) (enc : TypeId × Value → H) :
    ReturnsInHanded {} Tryz.checked os 4 .any (Rows.stepsCanSpec.pre6 enc Tryz.prog Tryz.f4 Rows.stepsCanRow.domain false) (Rows.stepsCanSpec.post enc Tryz.prog Tryz.f4 false true false false) := by
  refine returnsInHanded_of_change (C := Tryz.checked) ownK started (by kernel_rfl) Tryz.func4
    (ChangeSpec.witness6 (enc := enc) (C := Tryz.checked) false ⟨#[], #[.agg #[.int .i64 0, .slice none 0 0], .agg #[.slice none 0 0, .slice none 0 0, .slice none 0 0, .slice none 0 0]], []⟩ 8 (by kernel_rfl) (by kernel_rfl) (by kernel_rfl) (by kernel_rfl)) ?_
  intro W base args ds gs0 before hval0 hW hcnd _
  have hval : ∀ (j : Nat) t v, Tryz.f4.params[j]? = some t → args[j]? = some v → Value.okWide Tryz.prog W .any base t v := hval0
  have hW' := hW
  obtain ⟨p, q, hA0, hV, rfl, hfz, hnd⟩ := hW
  have hA : DataW.TrodAll enc Tryz.prog W 0 (fun _ => true) true Tryz.f4.params.toList args.toList ds p := hA0
  rw [Tryz.params4] at hA hval
  obtain ⟨v0, vs0, d0, ds0, p0, q0, hargs, rfl, rfl, h0, r0⟩ := trodAll_cons hA
  obtain ⟨v1, vs1, d1, ds1, p1, q1, rfl, rfl, rfl, h1, r1⟩ := trodAll_cons r0
  obtain ⟨rfl, rfl, rfl⟩ := trodAll_nil r1
  obtain rfl : args = #[v0, v1] := by cases args; simp_all
  obtain ⟨rfl, rfl⟩ := trodVars_none hV
  have k0 := h0
  have lt0 : ∀ x ∈ p0, x.block < W.heap.size := by obtain ⟨m, hm⟩ := k0; exact DataW.trod_lt m _ _ _ hm
  have k1 := h1
  have lt1 : ∀ x ∈ p1, x.block < W.heap.size := by obtain ⟨m, hm⟩ := k1; exact DataW.trod_lt m _ _ _ hm
  obtain ⟨m0, la0, l0, lc0, rfl, hl0⟩ := open_p (hval 0 24 v0 rfl rfl) h0
  obtain ⟨sa1, ra1, wa1, va1, sc1, rc1, tc1, vc1, S1, rfl, hs1⟩ := open_st (hval 1 29 v1 rfl rfl) h1
  clear hA0 hval0
  refine (stepsCan_walk la0 lc0 l0 sa1 ra1 wa1 va1 sc1 rc1 tc1 vc1 S1 m0 W hl0 hs1).mono fun e W' ⟨he, bel⟩ => ?_
  subst he
  exact ⟨_, rfl, _, _, _, [], _, [], hW', trodAll_mk1 (shut_bool Tryz.underlying4 _), (trodAll_cons_mk (Below.trod laidOutK (by kernel_rfl) (of_decide_eq_true (by kernel_rfl)) k0 bel lt0) (trodAll_cons_mk (Below.trod laidOutK (by kernel_rfl) (of_decide_eq_true (by kernel_rfl)) k1 bel lt1) trodAll_mk0)), rfl, bel.frame _, fun h => by cases h⟩

set_option maxRecDepth 100000 in
theorem stepsCan_over : Rows.stepsCanRow.holds Tryz.pinned (OpenSpec.ofChange Rows.stepsCanSpec) :=
  OpenClaim.holds_of_wide 4 Tryz.f4 rfl rfl rfl rfl rfl rfl rfl ⟨rfl, rfl, rfl, rfl, rfl⟩ rfl rfl rfl rfl rfl (by kernel_rfl) Tryz.func4 (by kernel_rfl)
    (of_decide_eq_true (by kernel_rfl)) (by unfold Func.isWrapper; first | (rw [if_pos (by decide +kernel)]; kernel_rfl) | (rw [if_neg (by decide +kernel)]; exact ⟨rfl, rfl⟩))
    (fun os started H enc _ => stepsCan_lifted os started H enc)

/-- The statement. -/
theorem stepsCan_holds : Rows.StepsCanSaid := stepsCan_over
#print axioms stepsCan_holds
end Go.Proofs.YtebjkmknhpgemaaGreat
