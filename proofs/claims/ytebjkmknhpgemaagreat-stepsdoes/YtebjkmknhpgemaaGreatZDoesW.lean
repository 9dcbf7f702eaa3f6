/-
  
  Conditions: those that each theorem states.
-/
import Derived.Test.YtebjkmknhpgemaaGreatZDocK
import Derived.WalkKit
import Derived.WalkSpells
import Derived.WalkLawsBesides
import Derived.Defers
import Derived.Recover
import Derived.ProofKit
import Derived.Deep.RegionHeld
import Derived.Deep.RegionHeld3
import Derived.Deep.RegionLaw
import Derived.Deep.DeepCutAuto
import Derived.Deep.QuietTactic
import Derived.BigQuiet
import Derived.Maps.AppendAt
import Derived.Lib.SliceRun
import Derived.Deep.AppendLies
import Derived.Test.YtebjkmknhpgemaaGreatZDocM
import Derived.Test.YtebjkmknhpgemaaGreatZChkW
import Derived.Test.YtebjkmknhpgemaaGreatZRunC
import Derived.Test.YtebjkmknhpgemaaGreatZRunD
namespace Go.Proofs.YtebjkmknhpgemaaGreat
open Go.RowKit
variable (la : Option Addr) (lc : Nat) (l : List TxA) (sa ra wa va : Option Addr) (sc rc tc vc : Nat) (S : SA)
set_option maxRecDepth 100000 in
set_option maxHeartbeats 20000000 in
/-- The document's DoOf, of a step of kind 1 that there may be. -/
theorem docDo_read (sh n k : Nat) (w : World) (hl : IsTxs w la l) (hs : Sta w sa ra wa va S) (hst : stE (sh : Int) l S = 0) (hn : n < l.length) (hk : k < sh) :
    Calls Tryz.prog 27 #[.agg #[.int .i64 (sh : Int), .slice la l.length lc], .agg #[.slice sa S.st.length sc, .slice ra S.rd.length rc, .slice wa S.wr.length tc, .slice va S.vs.length vc], .agg #[.int .i64 1, .int .i64 (n : Int), .int .i64 (k : Int)]] w fun e w' => ∃ q : Q4, e = .returned (.tuple #[.agg #[.slice q.sa q.sn q.sc, .slice q.ra q.rn q.rc, .slice q.wa q.wn q.tc, .slice q.va q.vn q.vc], .int .i64 (doE sh l S 1 n k)]) ∧ StaF w.heap.size (doS sh l S 1 n k) q w' ∧ Below w.heap.size w w' := by
  obtain ⟨sh', e, h0, h4, hc, hp, hf, _⟩ := stE_zero hst
  obtain rfl : sh = sh' := by omega
  clear e
  have h8 := chkL_len hc
  have hW : Hid (Below w.heap.size w ((((w.alloc (.cells #[.int .i64 (sh : Int), .slice la l.length lc] 24)).alloc (.cells #[.slice sa S.st.length sc, .slice ra S.rd.length rc, .slice wa S.wr.length tc, .slice va S.vs.length vc] 29)).alloc (.cells #[.int .i64 1, .int .i64 (n : Int), .int .i64 (k : Int)] 48)).alloc (.cells #[.slice none 0 0, .slice none 0 0, .slice none 0 0, .slice none 0 0] 29))) := (grow_alloc (grow_alloc (grow_alloc (grow_alloc (Below.refl _ _) _) _) _) _)
  have sz : Hid (((((w.alloc (.cells #[.int .i64 (sh : Int), .slice la l.length lc] 24)).alloc (.cells #[.slice sa S.st.length sc, .slice ra S.rd.length rc, .slice wa S.wr.length tc, .slice va S.vs.length vc] 29)).alloc (.cells #[.int .i64 1, .int .i64 (n : Int), .int .i64 (k : Int)] 48)).alloc (.cells #[.slice none 0 0, .slice none 0 0, .slice none 0 0, .slice none 0 0] 29)).heap.size = w.heap.size + 4) := by show _ = _; simp
  have p0 : ((((w.alloc (.cells #[.int .i64 (sh : Int), .slice la l.length lc] 24)).alloc (.cells #[.slice sa S.st.length sc, .slice ra S.rd.length rc, .slice wa S.wr.length tc, .slice va S.vs.length vc] 29)).alloc (.cells #[.int .i64 1, .int .i64 (n : Int), .int .i64 (k : Int)] 48)).alloc (.cells #[.slice none 0 0, .slice none 0 0, .slice none 0 0, .slice none 0 0] 29)).cell? ⟨w.heap.size, 0, none⟩ = some (.int .i64 (sh : Int)) := ext_cell (grow_alloc (grow_alloc (grow_alloc (Below.refl _ _) _) _) _) (at_new _ _ 24 _ 0 _ (by first | rfl | simp) rfl)
  have p1 : ((((w.alloc (.cells #[.int .i64 (sh : Int), .slice la l.length lc] 24)).alloc (.cells #[.slice sa S.st.length sc, .slice ra S.rd.length rc, .slice wa S.wr.length tc, .slice va S.vs.length vc] 29)).alloc (.cells #[.int .i64 1, .int .i64 (n : Int), .int .i64 (k : Int)] 48)).alloc (.cells #[.slice none 0 0, .slice none 0 0, .slice none 0 0, .slice none 0 0] 29)).cell? ⟨w.heap.size, 1, none⟩ = some (.slice la l.length lc) := ext_cell (grow_alloc (grow_alloc (grow_alloc (Below.refl _ _) _) _) _) (at_new _ _ 24 _ 1 _ (by first | rfl | simp) rfl)
  have q0 : ((((w.alloc (.cells #[.int .i64 (sh : Int), .slice la l.length lc] 24)).alloc (.cells #[.slice sa S.st.length sc, .slice ra S.rd.length rc, .slice wa S.wr.length tc, .slice va S.vs.length vc] 29)).alloc (.cells #[.int .i64 1, .int .i64 (n : Int), .int .i64 (k : Int)] 48)).alloc (.cells #[.slice none 0 0, .slice none 0 0, .slice none 0 0, .slice none 0 0] 29)).cell? ⟨w.heap.size + 1, 0, none⟩ = some (.slice sa S.st.length sc) := ext_cell (grow_alloc (grow_alloc (Below.refl _ _) _) _) (at_new _ _ 29 _ 0 _ (by first | rfl | simp) rfl)
  have q1 : ((((w.alloc (.cells #[.int .i64 (sh : Int), .slice la l.length lc] 24)).alloc (.cells #[.slice sa S.st.length sc, .slice ra S.rd.length rc, .slice wa S.wr.length tc, .slice va S.vs.length vc] 29)).alloc (.cells #[.int .i64 1, .int .i64 (n : Int), .int .i64 (k : Int)] 48)).alloc (.cells #[.slice none 0 0, .slice none 0 0, .slice none 0 0, .slice none 0 0] 29)).cell? ⟨w.heap.size + 1, 1, none⟩ = some (.slice ra S.rd.length rc) := ext_cell (grow_alloc (grow_alloc (Below.refl _ _) _) _) (at_new _ _ 29 _ 1 _ (by first | rfl | simp) rfl)
  have q2 : ((((w.alloc (.cells #[.int .i64 (sh : Int), .slice la l.length lc] 24)).alloc (.cells #[.slice sa S.st.length sc, .slice ra S.rd.length rc, .slice wa S.wr.length tc, .slice va S.vs.length vc] 29)).alloc (.cells #[.int .i64 1, .int .i64 (n : Int), .int .i64 (k : Int)] 48)).alloc (.cells #[.slice none 0 0, .slice none 0 0, .slice none 0 0, .slice none 0 0] 29)).cell? ⟨w.heap.size + 1, 2, none⟩ = some (.slice wa S.wr.length tc) := ext_cell (grow_alloc (grow_alloc (Below.refl _ _) _) _) (at_new _ _ 29 _ 2 _ (by first | rfl | simp) rfl)
  have q3 : ((((w.alloc (.cells #[.int .i64 (sh : Int), .slice la l.length lc] 24)).alloc (.cells #[.slice sa S.st.length sc, .slice ra S.rd.length rc, .slice wa S.wr.length tc, .slice va S.vs.length vc] 29)).alloc (.cells #[.int .i64 1, .int .i64 (n : Int), .int .i64 (k : Int)] 48)).alloc (.cells #[.slice none 0 0, .slice none 0 0, .slice none 0 0, .slice none 0 0] 29)).cell? ⟨w.heap.size + 1, 3, none⟩ = some (.slice va S.vs.length vc) := ext_cell (grow_alloc (grow_alloc (Below.refl _ _) _) _) (at_new _ _ 29 _ 3 _ (by first | rfl | simp) rfl)
  have r0 : ((((w.alloc (.cells #[.int .i64 (sh : Int), .slice la l.length lc] 24)).alloc (.cells #[.slice sa S.st.length sc, .slice ra S.rd.length rc, .slice wa S.wr.length tc, .slice va S.vs.length vc] 29)).alloc (.cells #[.int .i64 1, .int .i64 (n : Int), .int .i64 (k : Int)] 48)).alloc (.cells #[.slice none 0 0, .slice none 0 0, .slice none 0 0, .slice none 0 0] 29)).cell? ⟨w.heap.size + 2, 0, none⟩ = some (.int .i64 1) := ext_cell (grow_alloc (Below.refl _ _) _) (at_new _ _ 48 _ 0 _ (by first | rfl | simp) rfl)
  have r1 : ((((w.alloc (.cells #[.int .i64 (sh : Int), .slice la l.length lc] 24)).alloc (.cells #[.slice sa S.st.length sc, .slice ra S.rd.length rc, .slice wa S.wr.length tc, .slice va S.vs.length vc] 29)).alloc (.cells #[.int .i64 1, .int .i64 (n : Int), .int .i64 (k : Int)] 48)).alloc (.cells #[.slice none 0 0, .slice none 0 0, .slice none 0 0, .slice none 0 0] 29)).cell? ⟨w.heap.size + 2, 1, none⟩ = some (.int .i64 (n : Int)) := ext_cell (grow_alloc (Below.refl _ _) _) (at_new _ _ 48 _ 1 _ (by first | rfl | simp) rfl)
  have r2 : ((((w.alloc (.cells #[.int .i64 (sh : Int), .slice la l.length lc] 24)).alloc (.cells #[.slice sa S.st.length sc, .slice ra S.rd.length rc, .slice wa S.wr.length tc, .slice va S.vs.length vc] 29)).alloc (.cells #[.int .i64 1, .int .i64 (n : Int), .int .i64 (k : Int)] 48)).alloc (.cells #[.slice none 0 0, .slice none 0 0, .slice none 0 0, .slice none 0 0] 29)).cell? ⟨w.heap.size + 2, 2, none⟩ = some (.int .i64 (k : Int)) := ext_cell (grow_alloc (Below.refl _ _) _) (at_new _ _ 48 _ 2 _ (by first | rfl | simp) rfl)
  have s0 : ((((w.alloc (.cells #[.int .i64 (sh : Int), .slice la l.length lc] 24)).alloc (.cells #[.slice sa S.st.length sc, .slice ra S.rd.length rc, .slice wa S.wr.length tc, .slice va S.vs.length vc] 29)).alloc (.cells #[.int .i64 1, .int .i64 (n : Int), .int .i64 (k : Int)] 48)).alloc (.cells #[.slice none 0 0, .slice none 0 0, .slice none 0 0, .slice none 0 0] 29)).cell? ⟨w.heap.size + 3, 0, none⟩ = some (.slice none 0 0) := ext_cell (Below.refl _ _) (at_new _ _ 29 _ 0 _ (by first | rfl | simp) rfl)
  have s1 : ((((w.alloc (.cells #[.int .i64 (sh : Int), .slice la l.length lc] 24)).alloc (.cells #[.slice sa S.st.length sc, .slice ra S.rd.length rc, .slice wa S.wr.length tc, .slice va S.vs.length vc] 29)).alloc (.cells #[.int .i64 1, .int .i64 (n : Int), .int .i64 (k : Int)] 48)).alloc (.cells #[.slice none 0 0, .slice none 0 0, .slice none 0 0, .slice none 0 0] 29)).cell? ⟨w.heap.size + 3, 1, none⟩ = some (.slice none 0 0) := ext_cell (Below.refl _ _) (at_new _ _ 29 _ 1 _ (by first | rfl | simp) rfl)
  have s2 : ((((w.alloc (.cells #[.int .i64 (sh : Int), .slice la l.length lc] 24)).alloc (.cells #[.slice sa S.st.length sc, .slice ra S.rd.length rc, .slice wa S.wr.length tc, .slice va S.vs.length vc] 29)).alloc (.cells #[.int .i64 1, .int .i64 (n : Int), .int .i64 (k : Int)] 48)).alloc (.cells #[.slice none 0 0, .slice none 0 0, .slice none 0 0, .slice none 0 0] 29)).cell? ⟨w.heap.size + 3, 2, none⟩ = some (.slice none 0 0) := ext_cell (Below.refl _ _) (at_new _ _ 29 _ 2 _ (by first | rfl | simp) rfl)
  have s3 : ((((w.alloc (.cells #[.int .i64 (sh : Int), .slice la l.length lc] 24)).alloc (.cells #[.slice sa S.st.length sc, .slice ra S.rd.length rc, .slice wa S.wr.length tc, .slice va S.vs.length vc] 29)).alloc (.cells #[.int .i64 1, .int .i64 (n : Int), .int .i64 (k : Int)] 48)).alloc (.cells #[.slice none 0 0, .slice none 0 0, .slice none 0 0, .slice none 0 0] 29)).cell? ⟨w.heap.size + 3, 3, none⟩ = some (.slice none 0 0) := ext_cell (Below.refl _ _) (at_new _ _ 29 _ 3 _ (by first | rfl | simp) rfl)
  have SF : Hid (∀ j, ((((w.alloc (.cells #[.int .i64 (sh : Int), .slice la l.length lc] 24)).alloc (.cells #[.slice sa S.st.length sc, .slice ra S.rd.length rc, .slice wa S.wr.length tc, .slice va S.vs.length vc] 29)).alloc (.cells #[.int .i64 1, .int .i64 (n : Int), .int .i64 (k : Int)] 48)).alloc (.cells #[.slice none 0 0, .slice none 0 0, .slice none 0 0, .slice none 0 0] 29)).frozen? ⟨w.heap.size + 3, j, none⟩ = false) := fun j => frozen_new _ _ 29 _ j (by simp)
  have KEEP : Hid (∀ w', Below ((((w.alloc (.cells #[.int .i64 (sh : Int), .slice la l.length lc] 24)).alloc (.cells #[.slice sa S.st.length sc, .slice ra S.rd.length rc, .slice wa S.wr.length tc, .slice va S.vs.length vc] 29)).alloc (.cells #[.int .i64 1, .int .i64 (n : Int), .int .i64 (k : Int)] 48)).alloc (.cells #[.slice none 0 0, .slice none 0 0, .slice none 0 0, .slice none 0 0] 29)).heap.size ((((w.alloc (.cells #[.int .i64 (sh : Int), .slice la l.length lc] 24)).alloc (.cells #[.slice sa S.st.length sc, .slice ra S.rd.length rc, .slice wa S.wr.length tc, .slice va S.vs.length vc] 29)).alloc (.cells #[.int .i64 1, .int .i64 (n : Int), .int .i64 (k : Int)] 48)).alloc (.cells #[.slice none 0 0, .slice none 0 0, .slice none 0 0, .slice none 0 0] 29)) w' → w'.cell? ⟨w.heap.size, 0, none⟩ = some (.int .i64 (sh : Int)) ∧ w'.cell? ⟨w.heap.size, 1, none⟩ = some (.slice la l.length lc) ∧ w'.cell? ⟨w.heap.size + 1, 0, none⟩ = some (.slice sa S.st.length sc) ∧ w'.cell? ⟨w.heap.size + 1, 1, none⟩ = some (.slice ra S.rd.length rc) ∧ w'.cell? ⟨w.heap.size + 1, 2, none⟩ = some (.slice wa S.wr.length tc) ∧ w'.cell? ⟨w.heap.size + 1, 3, none⟩ = some (.slice va S.vs.length vc) ∧ w'.cell? ⟨w.heap.size + 2, 0, none⟩ = some (.int .i64 1) ∧ w'.cell? ⟨w.heap.size + 2, 1, none⟩ = some (.int .i64 (n : Int)) ∧ w'.cell? ⟨w.heap.size + 2, 2, none⟩ = some (.int .i64 (k : Int)) ∧ w'.cell? ⟨w.heap.size + 3, 0, none⟩ = some (.slice none 0 0) ∧ w'.cell? ⟨w.heap.size + 3, 1, none⟩ = some (.slice none 0 0) ∧ w'.cell? ⟨w.heap.size + 3, 2, none⟩ = some (.slice none 0 0) ∧ w'.cell? ⟨w.heap.size + 3, 3, none⟩ = some (.slice none 0 0)) := fun w' hb => ⟨ext_cell hb p0, ext_cell hb p1, ext_cell hb q0, ext_cell hb q1, ext_cell hb q2, ext_cell hb q3, ext_cell hb r0, ext_cell hb r1, ext_cell hb r2, ext_cell hb s0, ext_cell hb s1, ext_cell hb s2, ext_cell hb s3⟩
  have CK : Hid (Calls Tryz.prog 19 #[.agg #[.int .i64 (sh : Int), .slice la l.length lc], .agg #[.slice sa S.st.length sc, .slice ra S.rd.length rc, .slice wa S.wr.length tc, .slice va S.vs.length vc]] ((((w.alloc (.cells #[.int .i64 (sh : Int), .slice la l.length lc] 24)).alloc (.cells #[.slice sa S.st.length sc, .slice ra S.rd.length rc, .slice wa S.wr.length tc, .slice va S.vs.length vc] 29)).alloc (.cells #[.int .i64 1, .int .i64 (n : Int), .int .i64 (k : Int)] 48)).alloc (.cells #[.slice none 0 0, .slice none 0 0, .slice none 0 0, .slice none 0 0] 29)) fun e w' => e = .returned (.int .i64 (stE (sh : Int) l S)) ∧ Below ((((w.alloc (.cells #[.int .i64 (sh : Int), .slice la l.length lc] 24)).alloc (.cells #[.slice sa S.st.length sc, .slice ra S.rd.length rc, .slice wa S.wr.length tc, .slice va S.vs.length vc] 29)).alloc (.cells #[.int .i64 1, .int .i64 (n : Int), .int .i64 (k : Int)] 48)).alloc (.cells #[.slice none 0 0, .slice none 0 0, .slice none 0 0, .slice none 0 0] 29)).heap.size ((((w.alloc (.cells #[.int .i64 (sh : Int), .slice la l.length lc] 24)).alloc (.cells #[.slice sa S.st.length sc, .slice ra S.rd.length rc, .slice wa S.wr.length tc, .slice va S.vs.length vc] 29)).alloc (.cells #[.int .i64 1, .int .i64 (n : Int), .int .i64 (k : Int)] 48)).alloc (.cells #[.slice none 0 0, .slice none 0 0, .slice none 0 0, .slice none 0 0] 29)) w') := docCheck_any la lc l sa ra wa va sc rc tc vc S (sh : Int) ((((w.alloc (.cells #[.int .i64 (sh : Int), .slice la l.length lc] 24)).alloc (.cells #[.slice sa S.st.length sc, .slice ra S.rd.length rc, .slice wa S.wr.length tc, .slice va S.vs.length vc] 29)).alloc (.cells #[.int .i64 1, .int .i64 (n : Int), .int .i64 (k : Int)] 48)).alloc (.cells #[.slice none 0 0, .slice none 0 0, .slice none 0 0, .slice none 0 0] 29)) (hl.below hW.out) (hs.below hW.out)
  have HL : Hid (IsTxs ((((w.alloc (.cells #[.int .i64 (sh : Int), .slice la l.length lc] 24)).alloc (.cells #[.slice sa S.st.length sc, .slice ra S.rd.length rc, .slice wa S.wr.length tc, .slice va S.vs.length vc] 29)).alloc (.cells #[.int .i64 1, .int .i64 (n : Int), .int .i64 (k : Int)] 48)).alloc (.cells #[.slice none 0 0, .slice none 0 0, .slice none 0 0, .slice none 0 0] 29)) la l) := hl.below hW.out
  have HS : Hid (Sta ((((w.alloc (.cells #[.int .i64 (sh : Int), .slice la l.length lc] 24)).alloc (.cells #[.slice sa S.st.length sc, .slice ra S.rd.length rc, .slice wa S.wr.length tc, .slice va S.vs.length vc] 29)).alloc (.cells #[.int .i64 1, .int .i64 (n : Int), .int .i64 (k : Int)] 48)).alloc (.cells #[.slice none 0 0, .slice none 0 0, .slice none 0 0, .slice none 0 0] 29)) sa ra wa va S) := hs.below hW.out
  rw [hst] at CK
  have HF : Hid (Form sh l S) := formB_iff.1 hf
  have HP : Hid (∀ a, a < l.length → pnE sh l a = 0) := fun a ha => pnE_in hp ha
  have CM : Hid (∀ w', Below ((((w.alloc (.cells #[.int .i64 (sh : Int), .slice la l.length lc] 24)).alloc (.cells #[.slice sa S.st.length sc, .slice ra S.rd.length rc, .slice wa S.wr.length tc, .slice va S.vs.length vc] 29)).alloc (.cells #[.int .i64 1, .int .i64 (n : Int), .int .i64 (k : Int)] 48)).alloc (.cells #[.slice none 0 0, .slice none 0 0, .slice none 0 0, .slice none 0 0] 29)).heap.size ((((w.alloc (.cells #[.int .i64 (sh : Int), .slice la l.length lc] 24)).alloc (.cells #[.slice sa S.st.length sc, .slice ra S.rd.length rc, .slice wa S.wr.length tc, .slice va S.vs.length vc] 29)).alloc (.cells #[.int .i64 1, .int .i64 (n : Int), .int .i64 (k : Int)] 48)).alloc (.cells #[.slice none 0 0, .slice none 0 0, .slice none 0 0, .slice none 0 0] 29)) w' → Calls Tryz.prog 65 #[.agg #[.int .i64 (sh : Int), .slice la l.length lc], .agg #[.slice sa S.st.length sc, .slice ra S.rd.length rc, .slice wa S.wr.length tc, .slice va S.vs.length vc], .agg #[.int .i64 1, .int .i64 (n : Int), .int .i64 (k : Int)]] w' fun e w'' => e = .returned (.bool (mayB sh l S 1 n k)) ∧ Below w'.heap.size w' w'') := fun w' hb => docMay_read la lc l sa ra wa va sc rc tc vc S sh n k w' ((hl.below hW.out).below hb) ((hs.below hW.out).below hb) HP.out HF.out hn h8 hk h4
  have CD : Hid (∀ w', Below ((((w.alloc (.cells #[.int .i64 (sh : Int), .slice la l.length lc] 24)).alloc (.cells #[.slice sa S.st.length sc, .slice ra S.rd.length rc, .slice wa S.wr.length tc, .slice va S.vs.length vc] 29)).alloc (.cells #[.int .i64 1, .int .i64 (n : Int), .int .i64 (k : Int)] 48)).alloc (.cells #[.slice none 0 0, .slice none 0 0, .slice none 0 0, .slice none 0 0] 29)).heap.size ((((w.alloc (.cells #[.int .i64 (sh : Int), .slice la l.length lc] 24)).alloc (.cells #[.slice sa S.st.length sc, .slice ra S.rd.length rc, .slice wa S.wr.length tc, .slice va S.vs.length vc] 29)).alloc (.cells #[.int .i64 1, .int .i64 (n : Int), .int .i64 (k : Int)] 48)).alloc (.cells #[.slice none 0 0, .slice none 0 0, .slice none 0 0, .slice none 0 0] 29)) w' → Calls Tryz.prog 71 #[.agg #[.int .i64 (sh : Int), .slice la l.length lc], .agg #[.slice sa S.st.length sc, .slice ra S.rd.length rc, .slice wa S.wr.length tc, .slice va S.vs.length vc], .agg #[.int .i64 1, .int .i64 (n : Int), .int .i64 (k : Int)]] w' fun e w'' => ∃ q : Q4, e = .returned (.agg #[.slice q.sa q.sn q.sc, .slice q.ra q.rn q.rc, .slice q.wa q.wn q.tc, .slice q.va q.vn q.vc]) ∧ StaF w'.heap.size (readX sh l S n k) q w'' ∧ Below w'.heap.size w' w'') := fun w' hb => docDone_read la lc l sa ra wa va sc rc tc vc S sh n k w' ((hl.below hW.out).below hb) ((hs.below hW.out).below hb) hp HF.out hn hk
  have HEE : Hid (doE sh l S 1 n k = if ptB sh (gX l n) k = true then (if at2 S.rd n k = true then 7 else if freeB sh l S 1 n k = true then 0 else 6) else 5) := by
    have e1 : doE sh l S 1 n k = stepE sh l S 1 n k := if_pos hst
    show _ = _
    rw [e1]
    exact stepE_in (kd := 1) (.inl rfl) hn hk
  have HMF : Hid (mayB sh l S 1 n k = (ptB sh (gX l n) k && !at2 S.rd n k && freeB sh l S 1 n k)) := rfl
  have HNS : Hid (¬ doE sh l S 1 n k = 0 → doS sh l S 1 n k = SNil) := fun h => if_neg h
  have HRS : Hid (doE sh l S 1 n k = 0 → doS sh l S 1 n k = readX sh l S n k) := fun h => if_pos h
  have hwa : ∀ (a b c : Int) w, Calls Tryz.prog 51 #[.int .i64 a, .int .i64 b, .int .i64 c] w fun e w' => e = .returned (.bool (decide (b ≤ a) && decide (a ≤ c))) ∧ w' = w := within_any
  have d1 : (decide ((0 : Int) ≤ (n : Int)) && decide ((n : Int) ≤ (l.length : Int) - 1)) = true := by simp; omega
  have d2 : (decide ((0 : Int) ≤ (k : Int)) && decide ((k : Int) ≤ (sh : Int) - 1)) = true := by simp; omega
  clear hl hs hst hf hp hc p0 p1 q0 q1 q2 q3 r0 r1 r2 s0 s1 s2 s3
  generalize doE sh l S 1 n k = E at *
  generalize doS sh l S 1 n k = S9 at *
  go_enter Tryz.func27, Tryz.ntmps27
  go_upto_region 1 with fail
  generalize ((((w.alloc (.cells #[.int .i64 (sh : Int), .slice la l.length lc] 24)).alloc (.cells #[.slice sa S.st.length sc, .slice ra S.rd.length rc, .slice wa S.wr.length tc, .slice va S.vs.length vc] 29)).alloc (.cells #[.int .i64 1, .int .i64 (n : Int), .int .i64 (k : Int)] 48)).alloc (.cells #[.slice none 0 0, .slice none 0 0, .slice none 0 0, .slice none 0 0] 29)) = W at *
  obtain ⟨p0, p1, q0, q1, q2, q3, r0, r1, r2, s0, s1, s2, s3⟩ := KEEP.out W (Below.refl _ _)
  go_wp2_with fail
  refine CK.out.mono ?_
  rintro e V ⟨rfl, hbV⟩
  have BV : Hid (Below W.heap.size W V) := hbV
  clear CK hbV p0 p1 q0 q1 q2 q3 r0 r1 r2 s0 s1 s2 s3
  obtain ⟨p0, p1, q0, q1, q2, q3, r0, r1, r2, s0, s1, s2, s3⟩ := KEEP.out V BV.out
  obtain ⟨b4, o4, b5, o5, c5, e4, _, _, z4, z5⟩ := (HS.out.below BV.out).rd.rows HF.out.rd HF.out.rn h0 n hn
  have z5' := z5 k hk
  rw [e4, HF.out.rd] at q1
  clear z5
  go_upto_region 8 with (first | (go_at_call 51; refine (hwa _ _ _ _).mono ?_; rintro e w5 ⟨rfl, e5⟩; have e6 := e5.symm; subst e6; (first | rw [d1] | rw [d2])))
  go_quiet (fail)
  obtain ⟨V2, eV, BV2⟩ : ∃ V2, V.drewN nq = V2 ∧ Hid (Below W.heap.size W V2) := ⟨_, rfl, drewN_grow BV.out _⟩
  rw [eV]
  clear eV BV p0 p1 q0 q1 q2 q3 r0 r1 r2 s0 s1 s2 s3 z4 z5' e4
  go_upto_region 9 with fail
  obtain ⟨p0, p1, q0, q1, q2, q3, r0, r1, r2, s0, s1, s2, s3⟩ := KEEP.out V2 BV2.out
  have CA : Hid (∀ w1, Below V2.heap.size V2 w1 → Calls Tryz.prog 53 #[.agg #[.int .i64 sh, .slice la l.length lc], .int .i64 n] w1 fun e w' => ∃ b3 o3 c3, e = .returned (.slice (some ⟨b3, o3, none⟩) sh c3) ∧ w'.cell? ⟨b3, o3 + k, none⟩ = some (.bool (ptB sh (gX l n) k)) ∧ Below w1.heap.size w1 w') := fun w1 hb => by
    refine (partOf_any la lc l sh n _ ((HL.out.below BV2.out).below hb) (HP.out n hn)).mono ?_
    rintro e w2 ⟨a, c, rfl, hbs, hb2⟩
    have hL := marks_len sh (keysIn (locksAt l n))
    obtain ⟨b3, o3, rfl, _, d3⟩ := hbs k (by rw [hL]; exact hk)
    exact ⟨b3, o3, c, by rw [hL], d3, hb2⟩
  have KS : Hid (∀ w', Below V2.heap.size V2 w' → w'.cell? ⟨w.heap.size, 0, none⟩ = some (.int .i64 (sh : Int)) ∧ w'.cell? ⟨w.heap.size, 1, none⟩ = some (.slice la l.length lc) ∧ w'.cell? ⟨w.heap.size + 2, 1, none⟩ = some (.int .i64 (n : Int)) ∧ w'.cell? ⟨w.heap.size + 2, 2, none⟩ = some (.int .i64 (k : Int)) ∧ Hid (Below V2.heap.size V2 w')) := fun w' hb => ⟨ext_cell hb p0, ext_cell hb p1, ext_cell hb r1, ext_cell hb r2, hb⟩
  clear p0 p1 q0 q1 q2 q3 r0 r1 r2 s0 s1 s2 s3
  refine wp_region_held_drew (S := (fun w' => w'.cell? ⟨w.heap.size, 0, none⟩ = some (.int .i64 (sh : Int)) ∧ w'.cell? ⟨w.heap.size, 1, none⟩ = some (.slice la l.length lc) ∧ w'.cell? ⟨w.heap.size + 2, 1, none⟩ = some (.int .i64 (n : Int)) ∧ w'.cell? ⟨w.heap.size + 2, 2, none⟩ = some (.int .i64 (k : Int)) ∧ Hid (Below V2.heap.size V2 w'))) (by kernel_rfl) ?_ (fun hHeld => ?_)
  · refine KS.out _ ?_
    exact grow_drew (Below.refl _ _)
  refine wpAnyH_take (i := 0) (oi := { dst := some 55, op := .load 24 (.tmp 3), type := 24, pos := "steps.go:165", after := #[], guard := none }) (v := ?_) rfl (by kernel_rfl) (by kernel_rfl) (by kernel_rfl) (fun _ _ _ h => h) (Or.inl ⟨by rfl, ?_⟩) (by assumption) ?_
  rotate_left
  · intro w hSw
    go_simp
    first | done | with_reducible rfl
  try simp only [Act.put, List.setIfInBounds_toArray, List.set_cons_zero, List.set_cons_succ]
  refine wpAnyH_take (i := 1) (oi := { dst := some 56, op := .fieldAddr 48 (.tmp 5) 1, type := 0, pos := "steps.go:165", after := #[], guard := none }) (v := ?_) rfl (by kernel_rfl) (by kernel_rfl) (by kernel_rfl) (fun _ _ _ h => h) (Or.inl ⟨by rfl, ?_⟩) (by assumption) ?_
  rotate_left
  · intro w hSw
    go_simp
    first | done | with_reducible rfl
  try simp only [Act.put, List.setIfInBounds_toArray, List.set_cons_zero, List.set_cons_succ]
  refine wpAnyH_take (i := 2) (oi := { dst := some 57, op := .load 3 (.tmp 56), type := 3, pos := "steps.go:165", after := #[{ on := 1, ground := .data }], guard := none }) (v := ?_) rfl (by kernel_rfl) (by kernel_rfl) (by kernel_rfl) (fun _ _ _ h => h) (Or.inl ⟨by rfl, ?_⟩) (by assumption) ?_
  rotate_left
  · intro w hSw
    go_simp
    first | done | with_reducible rfl
  try simp only [Act.put, List.setIfInBounds_toArray, List.set_cons_zero, List.set_cons_succ]
  refine wpAnyH_take (i := 4) (oi := { dst := some 59, op := .fieldAddr 48 (.tmp 5) 2, type := 0, pos := "steps.go:165", after := #[], guard := none }) (v := ?_) rfl (by kernel_rfl) (by kernel_rfl) (by kernel_rfl) (fun _ _ _ h => h) (Or.inl ⟨by rfl, ?_⟩) (by assumption) ?_
  rotate_left
  · intro w hSw
    go_simp
    first | done | with_reducible rfl
  try simp only [Act.put, List.setIfInBounds_toArray, List.set_cons_zero, List.set_cons_succ]
  refine wpAnyH_take (i := 5) (oi := { dst := some 60, op := .load 3 (.tmp 59), type := 3, pos := "steps.go:165", after := #[{ on := 4, ground := .data }], guard := none }) (v := ?_) rfl (by kernel_rfl) (by kernel_rfl) (by kernel_rfl) (fun _ _ _ h => h) (Or.inl ⟨by rfl, ?_⟩) (by assumption) ?_
  rotate_left
  · intro w hSw
    go_simp
    first | done | with_reducible rfl
  try simp only [Act.put, List.setIfInBounds_toArray, List.set_cons_zero, List.set_cons_succ]
  refine wpAnyH_ready (rs := [3]) (by kernel_rfl) (by simp) ?_
  refine AllReadyH.cons (o := { dst := some 58, op := .call { callee := .value (.func 53), args := #[.tmp 55, .tmp 57], argTypes := #[24, 3] }, type := 65, pos := "steps.go:165", after := #[{ on := 0, ground := .data }, { on := 2, ground := .data }], guard := none }) rfl (fun K hK => ?_) AllReadyH.nil
  go_simp
  go_wp2_with (go_at_call 53; refine (CA.out _ (grow_drew (Below.refl _ _))).mono ?_; rintro e V3 ⟨b3, o3, c3, rfl, d3, hb1⟩)
  have BW : Hid (Below V2.heap.size V2 V3) := grow_trans (grow_drew (Below.refl _ _)) hb1
  clear hHeld
  refine hK.out _ _ (KS.out _ BW.out) (fun hHeld => ?_)
  clear hK K
  refine wpAnyH_take (i := 6) (oi := { dst := some 61, op := .indexAddr 65 (.tmp 58) (.tmp 60), type := 0, pos := "steps.go:165", after := #[{ on := 3, ground := .data }, { on := 5, ground := .data }], guard := none }) (v := ?_) rfl (by kernel_rfl) (by kernel_rfl) (by kernel_rfl) (fun _ _ _ h => h) (Or.inl ⟨by rfl, ?_⟩) (by assumption) ?_
  rotate_left
  · intro w hSw
    go_simp
    first | done | with_reducible rfl
  try simp only [Act.put, List.setIfInBounds_toArray, List.set_cons_zero, List.set_cons_succ]
  refine wpAnyH_ready (rs := [7]) (by kernel_rfl) (by simp) ?_
  refine AllReadyH.cons (o := { dst := some 62, op := .load 4 (.tmp 61), type := 4, pos := "steps.go:165", after := #[{ on := 6, ground := .data }], guard := none }) rfl (fun K hK => ?_) AllReadyH.nil
  go_simp
  skip
  clear hHeld
  refine hK.out _ _ (KS.out _ BW.out) (fun hHeld => ?_)
  clear hK K
  refine wpAnyH_take (i := 8) (oi := { dst := some 10, op := .assign (.tmp 62), type := 4, pos := "steps.go:165", after := #[{ on := 7, ground := .data }, { on := 3, ground := .chain }, { on := 0, ground := .phase }, { on := 1, ground := .phase }, { on := 2, ground := .phase }, { on := 3, ground := .phase }, { on := 4, ground := .phase }, { on := 5, ground := .phase }, { on := 6, ground := .phase }, { on := 7, ground := .phase }], guard := none }) (v := ?_) rfl (by kernel_rfl) (by kernel_rfl) (by kernel_rfl) (fun _ _ _ h => h) (Or.inl ⟨by rfl, ?_⟩) (by assumption) ?_
  rotate_left
  · intro w hSw
    go_simp
    first | done | with_reducible rfl
  try simp only [Act.put, List.setIfInBounds_toArray, List.set_cons_zero, List.set_cons_succ]
  refine wpAnyH_done (by kernel_rfl) ?_ _
  have BV3 : Hid (Below W.heap.size W V3) := grow_trans BV2.out BW.out
  clear BW hb1 d3 KS CA BV2 hHeld
  obtain ⟨p0, p1, q0, q1, q2, q3, r0, r1, r2, s0, s1, s2, s3⟩ := KEEP.out V3 BV3.out
  cases eP : ptB sh (gX l n) k with
  | false =>
    obtain rfl : E = 5 := by rw [HEE.out, eP]; rfl
    obtain rfl : S9 = SNil := HNS.out (by decide)
    have sf : ∀ j, V3.frozen? ⟨w.heap.size + 3, j, none⟩ = false := fun j => (BV3.out.frozen (p := ⟨w.heap.size + 3, j, none⟩) (by have := sz.out; show w.heap.size + 3 < _; omega)).trans (SF.out j)
    obtain ⟨x0, x1, x2, x3⟩ := put4 qNil s0 s1 s2 s3
    dsimp only [qNil] at x0 x1 x2 x3
    have FB : Hid (Below w.heap.size w ((((V3.setCell ⟨w.heap.size + 3, 0, none⟩ (.slice qNil.sa qNil.sn qNil.sc)).setCell ⟨w.heap.size + 3, 1, none⟩ (.slice qNil.ra qNil.rn qNil.rc)).setCell ⟨w.heap.size + 3, 2, none⟩ (.slice qNil.wa qNil.wn qNil.tc)).setCell ⟨w.heap.size + 3, 3, none⟩ (.slice qNil.va qNil.vn qNil.vc))) := grow_set (grow_set (grow_set (grow_set (grow_trans hW.out BV3.out) (by simp) _) (by simp) _) (by simp) _) (by simp) _
    clear BV3
    go_upto_region 13 with fail
    go_wp2_with fail
    refine bodyPost_ret (v := .tuple #[.agg #[.slice none 0 0, .slice none 0 0, .slice none 0 0, .slice none 0 0], .int .i64 5]) (by simp [results, Tryz.results27, go_sem, x0, x1, x2, x3]) rfl ⟨qNil, rfl, staF_nil _ _, FB.out⟩
  | true =>
    cases eQ : at2 S.rd n k with
    | true =>
      obtain rfl : E = 7 := by rw [HEE.out, eP, eQ]; rfl
      obtain rfl : S9 = SNil := HNS.out (by decide)
      have sf : ∀ j, V3.frozen? ⟨w.heap.size + 3, j, none⟩ = false := fun j => (BV3.out.frozen (p := ⟨w.heap.size + 3, j, none⟩) (by have := sz.out; show w.heap.size + 3 < _; omega)).trans (SF.out j)
      obtain ⟨x0, x1, x2, x3⟩ := put4 qNil s0 s1 s2 s3
      dsimp only [qNil] at x0 x1 x2 x3
      have FB : Hid (Below w.heap.size w ((((V3.setCell ⟨w.heap.size + 3, 0, none⟩ (.slice qNil.sa qNil.sn qNil.sc)).setCell ⟨w.heap.size + 3, 1, none⟩ (.slice qNil.ra qNil.rn qNil.rc)).setCell ⟨w.heap.size + 3, 2, none⟩ (.slice qNil.wa qNil.wn qNil.tc)).setCell ⟨w.heap.size + 3, 3, none⟩ (.slice qNil.va qNil.vn qNil.vc))) := grow_set (grow_set (grow_set (grow_set (grow_trans hW.out BV3.out) (by simp) _) (by simp) _) (by simp) _) (by simp) _
      clear BV3
      go_upto_region 13 with fail
      go_wp2_with fail
      refine bodyPost_ret (v := .tuple #[.agg #[.slice none 0 0, .slice none 0 0, .slice none 0 0, .slice none 0 0], .int .i64 7]) (by simp [results, Tryz.results27, go_sem, x0, x1, x2, x3]) rfl ⟨qNil, rfl, staF_nil _ _, FB.out⟩
    | false =>
      go_upto_region 13 with fail
      go_wp2_with fail
      refine (CM.out _ BV3.out).mono ?_
      rintro e VM ⟨rfl, hbm⟩
      have BVM : Hid (Below W.heap.size W VM) := grow_trans BV3.out hbm
      clear hbm p0 p1 q0 q1 q2 q3 r0 r1 r2 s0 s1 s2 s3
      obtain ⟨p0, p1, q0, q1, q2, q3, r0, r1, r2, s0, s1, s2, s3⟩ := KEEP.out VM BVM.out
      cases eF : mayB sh l S 1 n k with
      | false =>
        obtain rfl : E = 6 := by rw [HEE.out, eP, eQ]; show (if freeB sh l S 1 n k = true then (0 : Int) else 6) = 6; have h := HMF.out; rw [eP, eQ, eF] at h; rw [← show false = freeB sh l S 1 n k by simpa using h]; rfl
        obtain rfl : S9 = SNil := HNS.out (by decide)
        have sf : ∀ j, VM.frozen? ⟨w.heap.size + 3, j, none⟩ = false := fun j => (BVM.out.frozen (p := ⟨w.heap.size + 3, j, none⟩) (by have := sz.out; show w.heap.size + 3 < _; omega)).trans (SF.out j)
        obtain ⟨x0, x1, x2, x3⟩ := put4 qNil s0 s1 s2 s3
        dsimp only [qNil] at x0 x1 x2 x3
        have FB : Hid (Below w.heap.size w ((((VM.setCell ⟨w.heap.size + 3, 0, none⟩ (.slice qNil.sa qNil.sn qNil.sc)).setCell ⟨w.heap.size + 3, 1, none⟩ (.slice qNil.ra qNil.rn qNil.rc)).setCell ⟨w.heap.size + 3, 2, none⟩ (.slice qNil.wa qNil.wn qNil.tc)).setCell ⟨w.heap.size + 3, 3, none⟩ (.slice qNil.va qNil.vn qNil.vc))) := grow_set (grow_set (grow_set (grow_set (grow_trans hW.out BVM.out) (by simp) _) (by simp) _) (by simp) _) (by simp) _
        clear BVM
        go_wp2_with fail
        refine bodyPost_ret (v := .tuple #[.agg #[.slice none 0 0, .slice none 0 0, .slice none 0 0, .slice none 0 0], .int .i64 6]) (by simp [results, Tryz.results27, go_sem, x0, x1, x2, x3]) rfl ⟨qNil, rfl, staF_nil _ _, FB.out⟩
      | true =>
        obtain rfl : E = 0 := by rw [HEE.out, eP, eQ]; show (if freeB sh l S 1 n k = true then (0 : Int) else 6) = 0; have h := HMF.out; rw [eP, eQ, eF] at h; rw [← show true = freeB sh l S 1 n k by simpa using h]; rfl
        obtain rfl : S9 = readX sh l S n k := HRS.out rfl
        go_wp2_with fail
        refine (CD.out _ BVM.out).mono ?_
        rintro e VD ⟨q, rfl, hq, hbd⟩
        have BVD : Hid (Below W.heap.size W VD) := grow_trans BVM.out hbd
        clear p0 p1 q0 q1 q2 q3 r0 r1 r2 s0 s1 s2 s3
        obtain ⟨p0, p1, q0, q1, q2, q3, r0, r1, r2, s0, s1, s2, s3⟩ := KEEP.out VD BVD.out
        have sf : ∀ j, VD.frozen? ⟨w.heap.size + 3, j, none⟩ = false := fun j => (BVD.out.frozen (p := ⟨w.heap.size + 3, j, none⟩) (by have := sz.out; show w.heap.size + 3 < _; omega)).trans (SF.out j)
        obtain ⟨x0, x1, x2, x3⟩ := put4 q s0 s1 s2 s3
        have hlt : w.heap.size + 3 < VM.heap.size := by have := sz.out; have := BVM.out.size; omega
        have FS : Hid (StaF w.heap.size (readX sh l S n k) q ((((VD.setCell ⟨w.heap.size + 3, 0, none⟩ (.slice q.sa q.sn q.sc)).setCell ⟨w.heap.size + 3, 1, none⟩ (.slice q.ra q.rn q.rc)).setCell ⟨w.heap.size + 3, 2, none⟩ (.slice q.wa q.wn q.tc)).setCell ⟨w.heap.size + 3, 3, none⟩ (.slice q.va q.vn q.vc))) := ((((hq.set _ 0 _ hlt).set _ 1 _ hlt).set _ 2 _ hlt).set _ 3 _ hlt).low (by omega)
        have FB : Hid (Below w.heap.size w ((((VD.setCell ⟨w.heap.size + 3, 0, none⟩ (.slice q.sa q.sn q.sc)).setCell ⟨w.heap.size + 3, 1, none⟩ (.slice q.ra q.rn q.rc)).setCell ⟨w.heap.size + 3, 2, none⟩ (.slice q.wa q.wn q.tc)).setCell ⟨w.heap.size + 3, 3, none⟩ (.slice q.va q.vn q.vc))) := grow_set (grow_set (grow_set (grow_set (grow_trans hW.out BVD.out) (by simp) _) (by simp) _) (by simp) _) (by simp) _
        clear hq hbd BVD BVM BV3
        go_wp2_with fail
        refine bodyPost_ret (v := .tuple #[.agg #[.slice q.sa q.sn q.sc, .slice q.ra q.rn q.rc, .slice q.wa q.wn q.tc, .slice q.va q.vn q.vc], .int .i64 0]) (by simp [results, Tryz.results27, go_sem, x0, x1, x2, x3]) rfl ⟨q, rfl, FS.out, FB.out⟩
end Go.Proofs.YtebjkmknhpgemaaGreat
namespace Go.Proofs.YtebjkmknhpgemaaGreat
open Go.RowKit
variable (la : Option Addr) (lc : Nat) (l : List TxA) (sa ra wa va : Option Addr) (sc rc tc vc : Nat) (S : SA)
/-- The document's DoOf, whatever it is handed. -/
theorem docDo_any (m kd n k : Int) (w : World) (hl : IsTxs w la l) (hs : Sta w sa ra wa va S) :
    Calls Tryz.prog 27 #[.agg #[.int .i64 m, .slice la l.length lc], .agg #[.slice sa S.st.length sc, .slice ra S.rd.length rc, .slice wa S.wr.length tc, .slice va S.vs.length vc], .agg #[.int .i64 kd, .int .i64 n, .int .i64 k]] w fun e w' => ∃ q : Q4, e = .returned (.tuple #[.agg #[.slice q.sa q.sn q.sc, .slice q.ra q.rn q.rc, .slice q.wa q.wn q.tc, .slice q.va q.vn q.vc], .int .i64 (doE m l S kd n k)]) ∧ StaF w.heap.size (doS m l S kd n k) q w' ∧ Below w.heap.size w w' := by
  by_cases hst : stE m l S = 0
  rotate_left
  · have e1 : doE m l S kd n k = stE m l S := if_neg hst
    have e2 : doS m l S kd n k = SNil := if_neg (by rw [e1]; exact hst)
    rw [e2]
    exact docDo_none la lc l sa ra wa va sc rc tc vc S m kd n k w hl hs _ (.inl ⟨hst, e1⟩)
  have e1 : doE m l S kd n k = stepE m.toNat l S kd n k := if_pos hst
  by_cases hkd : kd = 1 ∨ kd = 2
  rotate_left
  · have e3 : doE m l S kd n k = 4 := by rw [e1]; exact if_neg hkd
    have e2 : doS m l S kd n k = SNil := if_neg (by rw [e3]; decide)
    rw [e2]
    exact docDo_none la lc l sa ra wa va sc rc tc vc S m kd n k w hl hs _ (.inr (.inl ⟨hst, fun h => hkd (.inl h), fun h => hkd (.inr h), e3⟩))
  obtain ⟨sh, rfl, h0, h4, _⟩ := stE_zero hst
  by_cases hr : n < 0 ∨ (l.length : Int) ≤ n ∨ k < 0 ∨ (sh : Int) ≤ k
  · have e3 : doE sh l S kd n k = 5 := by
      rw [e1]
      unfold stepE
      rw [if_pos hkd]
      exact if_pos hr
    have e2 : doS sh l S kd n k = SNil := if_neg (by rw [e3]; decide)
    rw [e2]
    refine docDo_none la lc l sa ra wa va sc rc tc vc S sh kd n k w hl hs _ (.inr (.inr ⟨hst, hkd, e3, ?_⟩))
    by_cases h1 : n < 0
    · exact .inl h1
    · by_cases h2 : (l.length : Int) ≤ n
      · exact .inr (.inl h2)
      · exact .inr (.inr ⟨by omega, by omega, by omega⟩)
  · obtain ⟨N, rfl⟩ : ∃ N : Nat, n = N := ⟨n.toNat, by omega⟩
    obtain ⟨K, rfl⟩ : ∃ K : Nat, k = K := ⟨k.toNat, by omega⟩
    rcases hkd with rfl | rfl
    · exact docDo_read la lc l sa ra wa va sc rc tc vc S sh N K w hl hs hst (by omega) (by omega)
    · exact docDo_write la lc l sa ra wa va sc rc tc vc S sh N K w hl hs hst (by omega) (by omega)
theorem do_small (m : Int) (l : List TxA) (S : SA) (kd n k : Int) : (doS m l S kd n k).st.length ≤ 100 ∧ (doS m l S kd n k).rd.length ≤ 100 ∧ (doS m l S kd n k).wr.length ≤ 100 ∧ (doS m l S kd n k).vs.length ≤ 100 ∧ ∀ i, ((doS m l S kd n k).rd.getD i []).length ≤ 100 ∧ ((doS m l S kd n k).wr.getD i []).length ≤ 100 ∧ ((doS m l S kd n k).vs.getD i []).length ≤ 100 := by
  by_cases h : doE m l S kd n k = 0
  · have hst : stE m l S = 0 := by
      apply Classical.byContradiction
      intro hn
      have e1 : doE m l S kd n k = stE m l S := if_neg hn
      rw [e1] at h
      exact hn h
    exact small_st (do_st hst h)
  · have e : doS m l S kd n k = SNil := if_neg h
    rw [e]
    exact small_nil
set_option maxRecDepth 100000 in
set_option maxHeartbeats 4000000 in
theorem stepsDoes_walk (m kd n k : Int) (w : World) (hl : IsTxs w la l) (hs : Sta w sa ra wa va S) :
    Calls Tryz.prog 5 #[.agg #[.int .i64 m, .slice la l.length lc], .agg #[.slice sa S.st.length sc, .slice ra S.rd.length rc, .slice wa S.wr.length tc, .slice va S.vs.length vc], .agg #[.int .i64 kd, .int .i64 n, .int .i64 k]] w fun e w' => e = .returned (.bool true) ∧ Below w.heap.size w w' := by
  have hg : Below w.heap.size w (((w.alloc (.cells #[.int .i64 m, .slice la l.length lc] 24)).alloc (.cells #[.slice sa S.st.length sc, .slice ra S.rd.length rc, .slice wa S.wr.length tc, .slice va S.vs.length vc] 29)).alloc (.cells #[.int .i64 kd, .int .i64 n, .int .i64 k] 48)) := (grow_alloc (grow_alloc (grow_alloc (Below.refl _ _) _) _) _)
  have HG : Hid (Below w.heap.size w (((w.alloc (.cells #[.int .i64 m, .slice la l.length lc] 24)).alloc (.cells #[.slice sa S.st.length sc, .slice ra S.rd.length rc, .slice wa S.wr.length tc, .slice va S.vs.length vc] 29)).alloc (.cells #[.int .i64 kd, .int .i64 n, .int .i64 k] 48))) := hg
  have HBB : Hid (∀ w, Calls Tryz.prog 20 #[] w fun e w' => e = .returned (.bool true) ∧ Below w.heap.size w w') := stepsBegun_any
  have p0 : (((w.alloc (.cells #[.int .i64 m, .slice la l.length lc] 24)).alloc (.cells #[.slice sa S.st.length sc, .slice ra S.rd.length rc, .slice wa S.wr.length tc, .slice va S.vs.length vc] 29)).alloc (.cells #[.int .i64 kd, .int .i64 n, .int .i64 k] 48)).cell? ⟨w.heap.size, 0, none⟩ = some (.int .i64 m) := ext_cell (grow_alloc (grow_alloc (Below.refl _ _) _) _) (at_new _ _ 24 _ 0 _ (by first | rfl | simp) rfl)
  have p1 : (((w.alloc (.cells #[.int .i64 m, .slice la l.length lc] 24)).alloc (.cells #[.slice sa S.st.length sc, .slice ra S.rd.length rc, .slice wa S.wr.length tc, .slice va S.vs.length vc] 29)).alloc (.cells #[.int .i64 kd, .int .i64 n, .int .i64 k] 48)).cell? ⟨w.heap.size, 1, none⟩ = some (.slice la l.length lc) := ext_cell (grow_alloc (grow_alloc (Below.refl _ _) _) _) (at_new _ _ 24 _ 1 _ (by first | rfl | simp) rfl)
  have q0 : (((w.alloc (.cells #[.int .i64 m, .slice la l.length lc] 24)).alloc (.cells #[.slice sa S.st.length sc, .slice ra S.rd.length rc, .slice wa S.wr.length tc, .slice va S.vs.length vc] 29)).alloc (.cells #[.int .i64 kd, .int .i64 n, .int .i64 k] 48)).cell? ⟨w.heap.size + 1, 0, none⟩ = some (.slice sa S.st.length sc) := ext_cell (grow_alloc (Below.refl _ _) _) (at_new _ _ 29 _ 0 _ (by first | rfl | simp) rfl)
  have q1 : (((w.alloc (.cells #[.int .i64 m, .slice la l.length lc] 24)).alloc (.cells #[.slice sa S.st.length sc, .slice ra S.rd.length rc, .slice wa S.wr.length tc, .slice va S.vs.length vc] 29)).alloc (.cells #[.int .i64 kd, .int .i64 n, .int .i64 k] 48)).cell? ⟨w.heap.size + 1, 1, none⟩ = some (.slice ra S.rd.length rc) := ext_cell (grow_alloc (Below.refl _ _) _) (at_new _ _ 29 _ 1 _ (by first | rfl | simp) rfl)
  have q2 : (((w.alloc (.cells #[.int .i64 m, .slice la l.length lc] 24)).alloc (.cells #[.slice sa S.st.length sc, .slice ra S.rd.length rc, .slice wa S.wr.length tc, .slice va S.vs.length vc] 29)).alloc (.cells #[.int .i64 kd, .int .i64 n, .int .i64 k] 48)).cell? ⟨w.heap.size + 1, 2, none⟩ = some (.slice wa S.wr.length tc) := ext_cell (grow_alloc (Below.refl _ _) _) (at_new _ _ 29 _ 2 _ (by first | rfl | simp) rfl)
  have q3 : (((w.alloc (.cells #[.int .i64 m, .slice la l.length lc] 24)).alloc (.cells #[.slice sa S.st.length sc, .slice ra S.rd.length rc, .slice wa S.wr.length tc, .slice va S.vs.length vc] 29)).alloc (.cells #[.int .i64 kd, .int .i64 n, .int .i64 k] 48)).cell? ⟨w.heap.size + 1, 3, none⟩ = some (.slice va S.vs.length vc) := ext_cell (grow_alloc (Below.refl _ _) _) (at_new _ _ 29 _ 3 _ (by first | rfl | simp) rfl)
  have r0 : (((w.alloc (.cells #[.int .i64 m, .slice la l.length lc] 24)).alloc (.cells #[.slice sa S.st.length sc, .slice ra S.rd.length rc, .slice wa S.wr.length tc, .slice va S.vs.length vc] 29)).alloc (.cells #[.int .i64 kd, .int .i64 n, .int .i64 k] 48)).cell? ⟨w.heap.size + 2, 0, none⟩ = some (.int .i64 kd) := ext_cell (Below.refl _ _) (at_new _ _ 48 _ 0 _ (by first | rfl | simp) rfl)
  have r1 : (((w.alloc (.cells #[.int .i64 m, .slice la l.length lc] 24)).alloc (.cells #[.slice sa S.st.length sc, .slice ra S.rd.length rc, .slice wa S.wr.length tc, .slice va S.vs.length vc] 29)).alloc (.cells #[.int .i64 kd, .int .i64 n, .int .i64 k] 48)).cell? ⟨w.heap.size + 2, 1, none⟩ = some (.int .i64 n) := ext_cell (Below.refl _ _) (at_new _ _ 48 _ 1 _ (by first | rfl | simp) rfl)
  have r2 : (((w.alloc (.cells #[.int .i64 m, .slice la l.length lc] 24)).alloc (.cells #[.slice sa S.st.length sc, .slice ra S.rd.length rc, .slice wa S.wr.length tc, .slice va S.vs.length vc] 29)).alloc (.cells #[.int .i64 kd, .int .i64 n, .int .i64 k] 48)).cell? ⟨w.heap.size + 2, 2, none⟩ = some (.int .i64 k) := ext_cell (Below.refl _ _) (at_new _ _ 48 _ 2 _ (by first | rfl | simp) rfl)
  have KEEP : Hid (∀ w', Below (((w.alloc (.cells #[.int .i64 m, .slice la l.length lc] 24)).alloc (.cells #[.slice sa S.st.length sc, .slice ra S.rd.length rc, .slice wa S.wr.length tc, .slice va S.vs.length vc] 29)).alloc (.cells #[.int .i64 kd, .int .i64 n, .int .i64 k] 48)).heap.size (((w.alloc (.cells #[.int .i64 m, .slice la l.length lc] 24)).alloc (.cells #[.slice sa S.st.length sc, .slice ra S.rd.length rc, .slice wa S.wr.length tc, .slice va S.vs.length vc] 29)).alloc (.cells #[.int .i64 kd, .int .i64 n, .int .i64 k] 48)) w' → w'.cell? ⟨w.heap.size, 0, none⟩ = some (.int .i64 m) ∧ w'.cell? ⟨w.heap.size, 1, none⟩ = some (.slice la l.length lc) ∧ w'.cell? ⟨w.heap.size + 1, 0, none⟩ = some (.slice sa S.st.length sc) ∧ w'.cell? ⟨w.heap.size + 1, 1, none⟩ = some (.slice ra S.rd.length rc) ∧ w'.cell? ⟨w.heap.size + 1, 2, none⟩ = some (.slice wa S.wr.length tc) ∧ w'.cell? ⟨w.heap.size + 1, 3, none⟩ = some (.slice va S.vs.length vc) ∧ w'.cell? ⟨w.heap.size + 2, 0, none⟩ = some (.int .i64 kd) ∧ w'.cell? ⟨w.heap.size + 2, 1, none⟩ = some (.int .i64 n) ∧ w'.cell? ⟨w.heap.size + 2, 2, none⟩ = some (.int .i64 k)) := fun w' hb => ⟨ext_cell hb p0, ext_cell hb p1, ext_cell hb q0, ext_cell hb q1, ext_cell hb q2, ext_cell hb q3, ext_cell hb r0, ext_cell hb r1, ext_cell hb r2⟩
  have C1 : Hid (Calls Tryz.prog 26 #[.agg #[.int .i64 m, .slice la l.length lc], .agg #[.slice sa S.st.length sc, .slice ra S.rd.length rc, .slice wa S.wr.length tc, .slice va S.vs.length vc], .agg #[.int .i64 kd, .int .i64 n, .int .i64 k]] (((w.alloc (.cells #[.int .i64 m, .slice la l.length lc] 24)).alloc (.cells #[.slice sa S.st.length sc, .slice ra S.rd.length rc, .slice wa S.wr.length tc, .slice va S.vs.length vc] 29)).alloc (.cells #[.int .i64 kd, .int .i64 n, .int .i64 k] 48)) fun e w'' => ∃ q : Q4, e = .returned (.tuple #[.agg #[.slice q.sa q.sn q.sc, .slice q.ra q.rn q.rc, .slice q.wa q.wn q.tc, .slice q.va q.vn q.vc], .int .i64 (doE m l S kd n k)]) ∧ StaF (((w.alloc (.cells #[.int .i64 m, .slice la l.length lc] 24)).alloc (.cells #[.slice sa S.st.length sc, .slice ra S.rd.length rc, .slice wa S.wr.length tc, .slice va S.vs.length vc] 29)).alloc (.cells #[.int .i64 kd, .int .i64 n, .int .i64 k] 48)).heap.size (doS m l S kd n k) q w'' ∧ Below (((w.alloc (.cells #[.int .i64 m, .slice la l.length lc] 24)).alloc (.cells #[.slice sa S.st.length sc, .slice ra S.rd.length rc, .slice wa S.wr.length tc, .slice va S.vs.length vc] 29)).alloc (.cells #[.int .i64 kd, .int .i64 n, .int .i64 k] 48)).heap.size (((w.alloc (.cells #[.int .i64 m, .slice la l.length lc] 24)).alloc (.cells #[.slice sa S.st.length sc, .slice ra S.rd.length rc, .slice wa S.wr.length tc, .slice va S.vs.length vc] 29)).alloc (.cells #[.int .i64 kd, .int .i64 n, .int .i64 k] 48)) w'') := stepsDo_any la lc l sa ra wa va sc rc tc vc S m kd n k (((w.alloc (.cells #[.int .i64 m, .slice la l.length lc] 24)).alloc (.cells #[.slice sa S.st.length sc, .slice ra S.rd.length rc, .slice wa S.wr.length tc, .slice va S.vs.length vc] 29)).alloc (.cells #[.int .i64 kd, .int .i64 n, .int .i64 k] 48)) (hl.below hg) (hs.below hg)
  have C2 : Hid (∀ w', Below (((w.alloc (.cells #[.int .i64 m, .slice la l.length lc] 24)).alloc (.cells #[.slice sa S.st.length sc, .slice ra S.rd.length rc, .slice wa S.wr.length tc, .slice va S.vs.length vc] 29)).alloc (.cells #[.int .i64 kd, .int .i64 n, .int .i64 k] 48)).heap.size (((w.alloc (.cells #[.int .i64 m, .slice la l.length lc] 24)).alloc (.cells #[.slice sa S.st.length sc, .slice ra S.rd.length rc, .slice wa S.wr.length tc, .slice va S.vs.length vc] 29)).alloc (.cells #[.int .i64 kd, .int .i64 n, .int .i64 k] 48)) w' → Calls Tryz.prog 27 #[.agg #[.int .i64 m, .slice la l.length lc], .agg #[.slice sa S.st.length sc, .slice ra S.rd.length rc, .slice wa S.wr.length tc, .slice va S.vs.length vc], .agg #[.int .i64 kd, .int .i64 n, .int .i64 k]] w' fun e w'' => ∃ q : Q4, e = .returned (.tuple #[.agg #[.slice q.sa q.sn q.sc, .slice q.ra q.rn q.rc, .slice q.wa q.wn q.tc, .slice q.va q.vn q.vc], .int .i64 (doE m l S kd n k)]) ∧ StaF w'.heap.size (doS m l S kd n k) q w'' ∧ Below w'.heap.size w' w'') := fun w' hb => docDo_any la lc l sa ra wa va sc rc tc vc S m kd n k w' ((hl.below hg).below hb) ((hs.below hg).below hb)
  have CE : Hid (∀ (q q' : Q4) w', StaQ (doS m l S kd n k) q w' → StaQ (doS m l S kd n k) q' w' → Calls Tryz.prog 21 #[.agg #[.slice q.sa q.sn q.sc, .slice q.ra q.rn q.rc, .slice q.wa q.wn q.tc, .slice q.va q.vn q.vc], .agg #[.slice q'.sa q'.sn q'.sc, .slice q'.ra q'.rn q'.rc, .slice q'.wa q'.wn q'.tc, .slice q'.va q'.vn q'.vc]] w' fun e w'' => e = .returned (.bool true) ∧ Below w'.heap.size w' w'') := fun q q' w' h1 h2 => staQ_same (do_small m l S kd n k) h1 h2
  clear hl hs hg p0 p1 q0 q1 q2 q3 r0 r1 r2
  generalize doE m l S kd n k = E at *
  generalize doS m l S kd n k = S' at *
  go_enter Tryz.func5, Tryz.ntmps5
  go_upto_region 1 with fail
  generalize (((w.alloc (.cells #[.int .i64 m, .slice la l.length lc] 24)).alloc (.cells #[.slice sa S.st.length sc, .slice ra S.rd.length rc, .slice wa S.wr.length tc, .slice va S.vs.length vc] 29)).alloc (.cells #[.int .i64 kd, .int .i64 n, .int .i64 k] 48)) = W at *
  obtain ⟨p0, p1, q0, q1, q2, q3, r0, r1, r2⟩ := KEEP.out W (Below.refl _ _)
  go_wp2_with fail
  refine C1.out.mono ?_
  rintro e w1 ⟨qa, rfl, hq, hb1⟩
  have gA : Below w1.heap.size w1 (w1.alloc (.cells #[.slice qa.sa qa.sn qa.sc, .slice qa.ra qa.rn qa.rc, .slice qa.wa qa.wn qa.tc, .slice qa.va qa.vn qa.vc] 29)) := grow_alloc (Below.refl _ _) _
  have BV1 : Hid (Below W.heap.size W (w1.alloc (.cells #[.slice qa.sa qa.sn qa.sc, .slice qa.ra qa.rn qa.rc, .slice qa.wa qa.wn qa.tc, .slice qa.va qa.vn qa.vc] 29))) := grow_trans hb1 gA
  have HQ1 : Hid (StaQ S' qa (w1.alloc (.cells #[.slice qa.sa qa.sn qa.sc, .slice qa.ra qa.rn qa.rc, .slice qa.wa qa.wn qa.tc, .slice qa.va qa.vn qa.vc] 29))) := hq.sta.below gA
  have k0 : (w1.alloc (.cells #[.slice qa.sa qa.sn qa.sc, .slice qa.ra qa.rn qa.rc, .slice qa.wa qa.wn qa.tc, .slice qa.va qa.vn qa.vc] 29)).cell? ⟨w1.heap.size, 0, none⟩ = some (.slice qa.sa qa.sn qa.sc) := at_new _ _ 29 _ 0 _ rfl rfl
  have k1 : (w1.alloc (.cells #[.slice qa.sa qa.sn qa.sc, .slice qa.ra qa.rn qa.rc, .slice qa.wa qa.wn qa.tc, .slice qa.va qa.vn qa.vc] 29)).cell? ⟨w1.heap.size, 1, none⟩ = some (.slice qa.ra qa.rn qa.rc) := at_new _ _ 29 _ 1 _ rfl rfl
  have k2 : (w1.alloc (.cells #[.slice qa.sa qa.sn qa.sc, .slice qa.ra qa.rn qa.rc, .slice qa.wa qa.wn qa.tc, .slice qa.va qa.vn qa.vc] 29)).cell? ⟨w1.heap.size, 2, none⟩ = some (.slice qa.wa qa.wn qa.tc) := at_new _ _ 29 _ 2 _ rfl rfl
  have k3 : (w1.alloc (.cells #[.slice qa.sa qa.sn qa.sc, .slice qa.ra qa.rn qa.rc, .slice qa.wa qa.wn qa.tc, .slice qa.va qa.vn qa.vc] 29)).cell? ⟨w1.heap.size, 3, none⟩ = some (.slice qa.va qa.vn qa.vc) := at_new _ _ 29 _ 3 _ rfl rfl
  clear hb1 gA hq C1 p0 p1 q0 q1 q2 q3 r0 r1 r2
  go_upto_region 2 with fail
  generalize (w1.alloc (.cells #[.slice qa.sa qa.sn qa.sc, .slice qa.ra qa.rn qa.rc, .slice qa.wa qa.wn qa.tc, .slice qa.va qa.vn qa.vc] 29)) = V1 at *
  generalize w1.heap.size = b1 at *
  obtain ⟨p0, p1, q0, q1, q2, q3, r0, r1, r2⟩ := KEEP.out V1 BV1.out
  go_wp2_with fail
  refine (C2.out _ BV1.out).mono ?_
  rintro e w2 ⟨qb, rfl, hq, hb2⟩
  have gA : Below w2.heap.size w2 (w2.alloc (.cells #[.slice qb.sa qb.sn qb.sc, .slice qb.ra qb.rn qb.rc, .slice qb.wa qb.wn qb.tc, .slice qb.va qb.vn qb.vc] 29)) := grow_alloc (Below.refl _ _) _
  have hbn : Below V1.heap.size V1 (w2.alloc (.cells #[.slice qb.sa qb.sn qb.sc, .slice qb.ra qb.rn qb.rc, .slice qb.wa qb.wn qb.tc, .slice qb.va qb.vn qb.vc] 29)) := grow_trans hb2 gA
  have BV2 : Hid (Below W.heap.size W (w2.alloc (.cells #[.slice qb.sa qb.sn qb.sc, .slice qb.ra qb.rn qb.rc, .slice qb.wa qb.wn qb.tc, .slice qb.va qb.vn qb.vc] 29))) := grow_trans BV1.out hbn
  have HR1 : Hid (StaQ S' qb (w2.alloc (.cells #[.slice qb.sa qb.sn qb.sc, .slice qb.ra qb.rn qb.rc, .slice qb.wa qb.wn qb.tc, .slice qb.va qb.vn qb.vc] 29))) := hq.sta.below gA
  have HQ2 : Hid (StaQ S' qa (w2.alloc (.cells #[.slice qb.sa qb.sn qb.sc, .slice qb.ra qb.rn qb.rc, .slice qb.wa qb.wn qb.tc, .slice qb.va qb.vn qb.vc] 29))) := HQ1.out.below hbn
  have k0 := ext_cell hbn k0
  have k1 := ext_cell hbn k1
  have k2 := ext_cell hbn k2
  have k3 := ext_cell hbn k3
  have m0 : (w2.alloc (.cells #[.slice qb.sa qb.sn qb.sc, .slice qb.ra qb.rn qb.rc, .slice qb.wa qb.wn qb.tc, .slice qb.va qb.vn qb.vc] 29)).cell? ⟨w2.heap.size, 0, none⟩ = some (.slice qb.sa qb.sn qb.sc) := at_new _ _ 29 _ 0 _ rfl rfl
  have m1 : (w2.alloc (.cells #[.slice qb.sa qb.sn qb.sc, .slice qb.ra qb.rn qb.rc, .slice qb.wa qb.wn qb.tc, .slice qb.va qb.vn qb.vc] 29)).cell? ⟨w2.heap.size, 1, none⟩ = some (.slice qb.ra qb.rn qb.rc) := at_new _ _ 29 _ 1 _ rfl rfl
  have m2 : (w2.alloc (.cells #[.slice qb.sa qb.sn qb.sc, .slice qb.ra qb.rn qb.rc, .slice qb.wa qb.wn qb.tc, .slice qb.va qb.vn qb.vc] 29)).cell? ⟨w2.heap.size, 2, none⟩ = some (.slice qb.wa qb.wn qb.tc) := at_new _ _ 29 _ 2 _ rfl rfl
  have m3 : (w2.alloc (.cells #[.slice qb.sa qb.sn qb.sc, .slice qb.ra qb.rn qb.rc, .slice qb.wa qb.wn qb.tc, .slice qb.va qb.vn qb.vc] 29)).cell? ⟨w2.heap.size, 3, none⟩ = some (.slice qb.va qb.vn qb.vc) := at_new _ _ 29 _ 3 _ rfl rfl
  clear hb2 gA hq C2 p0 p1 q0 q1 q2 q3 r0 r1 r2 hbn HQ1
  go_upto_region 3 with fail
  generalize (w2.alloc (.cells #[.slice qb.sa qb.sn qb.sc, .slice qb.ra qb.rn qb.rc, .slice qb.wa qb.wn qb.tc, .slice qb.va qb.vn qb.vc] 29)) = V2 at *
  generalize w2.heap.size = b2 at *
  go_wp2_with fail
  refine (HBB.out _).mono ?_
  rintro e w3 ⟨rfl, hbx⟩
  have B3 : Hid (Below W.heap.size W w3) := grow_trans BV2.out hbx
  have HQ3 : Hid (StaQ S' qa w3) := HQ2.out.below hbx
  have HR3 : Hid (StaQ S' qb w3) := HR1.out.below hbx
  have k0 := ext_cell hbx k0
  have k1 := ext_cell hbx k1
  have k2 := ext_cell hbx k2
  have k3 := ext_cell hbx k3
  have m0 := ext_cell hbx m0
  have m1 := ext_cell hbx m1
  have m2 := ext_cell hbx m2
  have m3 := ext_cell hbx m3
  clear hbx
  go_wp2_with fail
  refine (CE.out qa qb w3 HQ3.out HR3.out).mono ?_
  rintro e w4 ⟨rfl, hbx⟩
  have B4 : Hid (Below w.heap.size w w4) := grow_trans HG.out (grow_trans B3.out hbx)
  clear hbx
  go_wp2
  go_ret
  exact ⟨by simp, B4.out⟩
end Go.Proofs.YtebjkmknhpgemaaGreat
