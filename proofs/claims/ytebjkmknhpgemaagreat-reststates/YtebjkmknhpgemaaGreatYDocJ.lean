/-
  
  Conditions: those that each theorem states.
-/
import Derived.Test.YtebjkmknhpgemaaGreatYDocI
import Derived.WalkKit
import Derived.WalkSpells
import Derived.WalkLawsBesides
import Derived.Defers
import Derived.Recover
import Derived.ProofKit
import Derived.Deep.RegionHeld
import Derived.Deep.RegionHeld3
import Derived.Deep.RegionLaw
import Derived.Deep.DeepCutAuto
import Derived.Deep.QuietTactic
import Derived.BigQuiet
import Derived.Maps.AppendAt
import Derived.Lib.SliceRun
import Derived.Deep.AppendLies
namespace Go.Proofs.YtebjkmknhpgemaaGreat
open Go.RowKit
variable (la : Option Addr) (lc : Nat) (l : List TxA) (sa ra wa va : Option Addr) (sc rc tc vc : Nat) (S : SA)
set_option maxRecDepth 100000 in
set_option maxHeartbeats 8000000 in
/-- The document's done, of a step that writes. -/
theorem docDone_write (sh n k : Nat) (w : World) (hl : IsTxs w la l) (hs : Sta w sa ra wa va S) (hp : planE (sh : Int) l = 0) (hF : Form sh l S) (hn : n < l.length) (hk : k < sh) :
    Calls Tryz.prog 71 #[.agg #[.int .i64 (sh : Int), .slice la l.length lc], .agg #[.slice sa S.st.length sc, .slice ra S.rd.length rc, .slice wa S.wr.length tc, .slice va S.vs.length vc], .agg #[.int .i64 2, .int .i64 n, .int .i64 k]] w fun e w' => ∃ q : Q4, e = .returned (.agg #[.slice q.sa q.sn q.sc, .slice q.ra q.rn q.rc, .slice q.wa q.wn q.tc, .slice q.va q.vn q.vc]) ∧ StaF w.heap.size (writeX sh l S n k) q w' ∧ Below w.heap.size w w' := by
  obtain ⟨h1z, h4z, hc⟩ := planE_zero hp
  have h0 : 0 < sh := by omega
  have h4 : sh ≤ 4 := by omega
  have h8 := chkL_len hc
  have hr4 : ∀ i, i < l.length → (gX l i).rs.length ≤ 4 := fun i hi => (many_small _ _ _ (chk_parts (chkL_in hc i hi)).1).1
  rw [hF.st, hF.rd, hF.wr, hF.vs]
  obtain ⟨W, hWe⟩ : ∃ W : World, W = ((((w.alloc (.cells #[.int .i64 (sh : Int), .slice la l.length lc] 24)).alloc (.cells #[.slice sa 8 sc, .slice ra l.length rc, .slice wa l.length tc, .slice va l.length vc] 29)).alloc (.cells #[.int .i64 2, .int .i64 (n : Int), .int .i64 (k : Int)] 48)).alloc (.cells #[.slice none 0 0, .slice none 0 0, .slice none 0 0, .slice none 0 0] 29)) := ⟨_, rfl⟩
  have hW : Hid (Below w.heap.size w W) := by subst hWe; exact (grow_alloc (grow_alloc (grow_alloc (grow_alloc (Below.refl _ _) _) _) _) _)
  have sz : Hid (W.heap.size = w.heap.size + 4) := by subst hWe; show _ = _; simp
  have p0 : W.cell? ⟨w.heap.size, 0, none⟩ = some (.int .i64 (sh : Int)) := by subst hWe; exact ext_cell (grow_alloc (grow_alloc (grow_alloc (Below.refl _ _) _) _) _) (at_new _ _ 24 _ 0 _ (by first | rfl | simp) rfl)
  have p1 : W.cell? ⟨w.heap.size, 1, none⟩ = some (.slice la l.length lc) := by subst hWe; exact ext_cell (grow_alloc (grow_alloc (grow_alloc (Below.refl _ _) _) _) _) (at_new _ _ 24 _ 1 _ (by first | rfl | simp) rfl)
  have q0 : W.cell? ⟨w.heap.size + 1, 0, none⟩ = some (.slice sa 8 sc) := by subst hWe; exact ext_cell (grow_alloc (grow_alloc (Below.refl _ _) _) _) (at_new _ _ 29 _ 0 _ (by first | rfl | simp) rfl)
  have q1 : W.cell? ⟨w.heap.size + 1, 1, none⟩ = some (.slice ra l.length rc) := by subst hWe; exact ext_cell (grow_alloc (grow_alloc (Below.refl _ _) _) _) (at_new _ _ 29 _ 1 _ (by first | rfl | simp) rfl)
  have q2 : W.cell? ⟨w.heap.size + 1, 2, none⟩ = some (.slice wa l.length tc) := by subst hWe; exact ext_cell (grow_alloc (grow_alloc (Below.refl _ _) _) _) (at_new _ _ 29 _ 2 _ (by first | rfl | simp) rfl)
  have q3 : W.cell? ⟨w.heap.size + 1, 3, none⟩ = some (.slice va l.length vc) := by subst hWe; exact ext_cell (grow_alloc (grow_alloc (Below.refl _ _) _) _) (at_new _ _ 29 _ 3 _ (by first | rfl | simp) rfl)
  have r0 : W.cell? ⟨w.heap.size + 2, 0, none⟩ = some (.int .i64 2) := by subst hWe; exact ext_cell (grow_alloc (Below.refl _ _) _) (at_new _ _ 48 _ 0 _ (by first | rfl | simp) rfl)
  have r1 : W.cell? ⟨w.heap.size + 2, 1, none⟩ = some (.int .i64 (n : Int)) := by subst hWe; exact ext_cell (grow_alloc (Below.refl _ _) _) (at_new _ _ 48 _ 1 _ (by first | rfl | simp) rfl)
  have r2 : W.cell? ⟨w.heap.size + 2, 2, none⟩ = some (.int .i64 (k : Int)) := by subst hWe; exact ext_cell (grow_alloc (Below.refl _ _) _) (at_new _ _ 48 _ 2 _ (by first | rfl | simp) rfl)
  have s0 : W.cell? ⟨w.heap.size + 3, 0, none⟩ = some (.slice none 0 0) := by subst hWe; exact ext_cell (Below.refl _ _) (at_new _ _ 29 _ 0 _ (by first | rfl | simp) rfl)
  have s1 : W.cell? ⟨w.heap.size + 3, 1, none⟩ = some (.slice none 0 0) := by subst hWe; exact ext_cell (Below.refl _ _) (at_new _ _ 29 _ 1 _ (by first | rfl | simp) rfl)
  have s2 : W.cell? ⟨w.heap.size + 3, 2, none⟩ = some (.slice none 0 0) := by subst hWe; exact ext_cell (Below.refl _ _) (at_new _ _ 29 _ 2 _ (by first | rfl | simp) rfl)
  have s3 : W.cell? ⟨w.heap.size + 3, 3, none⟩ = some (.slice none 0 0) := by subst hWe; exact ext_cell (Below.refl _ _) (at_new _ _ 29 _ 3 _ (by first | rfl | simp) rfl)
  have SF : Hid (∀ j, W.frozen? ⟨w.heap.size + 3, j, none⟩ = false) := by subst hWe; exact fun j => frozen_new _ _ 29 _ j (by simp)
  have KEEP : Hid (∀ w', Below W.heap.size W w' → w'.cell? ⟨w.heap.size, 0, none⟩ = some (.int .i64 (sh : Int)) ∧ w'.cell? ⟨w.heap.size, 1, none⟩ = some (.slice la l.length lc) ∧ w'.cell? ⟨w.heap.size + 1, 0, none⟩ = some (.slice sa 8 sc) ∧ w'.cell? ⟨w.heap.size + 1, 1, none⟩ = some (.slice ra l.length rc) ∧ w'.cell? ⟨w.heap.size + 1, 2, none⟩ = some (.slice wa l.length tc) ∧ w'.cell? ⟨w.heap.size + 1, 3, none⟩ = some (.slice va l.length vc) ∧ w'.cell? ⟨w.heap.size + 2, 0, none⟩ = some (.int .i64 2) ∧ w'.cell? ⟨w.heap.size + 2, 1, none⟩ = some (.int .i64 (n : Int)) ∧ w'.cell? ⟨w.heap.size + 2, 2, none⟩ = some (.int .i64 (k : Int)) ∧ w'.cell? ⟨w.heap.size + 3, 0, none⟩ = some (.slice none 0 0) ∧ w'.cell? ⟨w.heap.size + 3, 1, none⟩ = some (.slice none 0 0) ∧ w'.cell? ⟨w.heap.size + 3, 2, none⟩ = some (.slice none 0 0) ∧ w'.cell? ⟨w.heap.size + 3, 3, none⟩ = some (.slice none 0 0)) := fun w' hb => ⟨ext_cell hb p0, ext_cell hb p1, ext_cell hb q0, ext_cell hb q1, ext_cell hb q2, ext_cell hb q3, ext_cell hb r0, ext_cell hb r1, ext_cell hb r2, ext_cell hb s0, ext_cell hb s1, ext_cell hb s2, ext_cell hb s3⟩
  have CO : Hid (Calls Tryz.prog 40 #[.agg #[.slice sa 8 sc, .slice ra l.length rc, .slice wa l.length tc, .slice va l.length vc]] W fun e w' => ∃ sa' ra' wa' va' sc' rc' tc' vc' g0 c1 c2 c3 gr gw gv Br Bw Bv, e = .returned (.agg #[.slice sa' 8 sc', .slice ra' l.length rc', .slice wa' l.length tc', .slice va' l.length vc']) ∧ OwnSt W.heap.size w' sa' ra' wa' va' sc' l sh S g0 c1 c2 c3 w'.heap.size gr gw gv Br Bw Bv ∧ Below W.heap.size W w') := docOwn_any sa ra wa va sc rc tc vc l sh S W h0 h4 h8 hr4 hF (hs.below hW.out)
  have HL : Hid (IsTxs W la l) := hl.below hW.out
  have HS : Hid (Sta W sa ra wa va S) := hs.below hW.out
  have HF : Hid (Form sh l S) := hF
  have HG : Hid (Good (gX l n)) := good_of (chkL_in hc n hn)
  have HCK : Hid (chkTx (gX l n).rs (gX l n).gs (gX l n).ss = 0) := chkL_in hc n hn
  clear hl hs hF hp h1z h4z p0 p1 q0 q1 q2 q3 r0 r1 r2 s0 s1 s2 s3
  have HWe : Hid (W = _) := hWe
  clear hWe
  go_enter Tryz.func71, Tryz.ntmps71
  go_upto_region 1 with fail
  rw [← HWe.out]
  clear HWe
  obtain ⟨p0, p1, q0, q1, q2, q3, r0, r1, r2, s0, s1, s2, s3⟩ := KEEP.out W (Below.refl _ _)
  go_wp2_with fail
  refine CO.out.mono ?_
  rintro e w1 ⟨sa', ra', wa', va', sc', rc', tc', vc', g0, c1, c2, c3, gr, gw, gv, Br, Bw, Bv, rfl, hown, hb1⟩
  have gA : Below w1.heap.size w1 (w1.alloc (.cells #[.slice sa' 8 sc', .slice ra' l.length rc', .slice wa' l.length tc', .slice va' l.length vc'] 29)) := grow_alloc (Below.refl _ _) _
  have gB : Below w1.heap.size w1 ((w1.alloc (.cells #[.slice sa' 8 sc', .slice ra' l.length rc', .slice wa' l.length tc', .slice va' l.length vc'] 29)).alloc (.cells #[.slice (gX l n).ra (gX l n).rs.length (gX l n).rc, .slice (gX l n).ga (gX l n).gs.length (gX l n).gc, .slice (gX l n).sa (gX l n).ss.length (gX l n).sc] 79)) := grow_alloc gA _
  have OW : Hid (OwnSt W.heap.size ((w1.alloc (.cells #[.slice sa' 8 sc', .slice ra' l.length rc', .slice wa' l.length tc', .slice va' l.length vc'] 29)).alloc (.cells #[.slice (gX l n).ra (gX l n).rs.length (gX l n).rc, .slice (gX l n).ga (gX l n).gs.length (gX l n).gc, .slice (gX l n).sa (gX l n).ss.length (gX l n).sc] 79)) sa' ra' wa' va' sc' l sh S g0 c1 c2 c3 w1.heap.size gr gw gv Br Bw Bv) := hown.below gB
  have BV : Hid (Below W.heap.size W ((w1.alloc (.cells #[.slice sa' 8 sc', .slice ra' l.length rc', .slice wa' l.length tc', .slice va' l.length vc'] 29)).alloc (.cells #[.slice (gX l n).ra (gX l n).rs.length (gX l n).rc, .slice (gX l n).ga (gX l n).gs.length (gX l n).gc, .slice (gX l n).sa (gX l n).ss.length (gX l n).sc] 79))) := grow_trans hb1 gB
  have BV1 : Hid (Below W.heap.size W (w1.alloc (.cells #[.slice sa' 8 sc', .slice ra' l.length rc', .slice wa' l.length tc', .slice va' l.length vc'] 29))) := grow_trans hb1 gA
  have o0 : ((w1.alloc (.cells #[.slice sa' 8 sc', .slice ra' l.length rc', .slice wa' l.length tc', .slice va' l.length vc'] 29)).alloc (.cells #[.slice (gX l n).ra (gX l n).rs.length (gX l n).rc, .slice (gX l n).ga (gX l n).gs.length (gX l n).gc, .slice (gX l n).sa (gX l n).ss.length (gX l n).sc] 79)).cell? ⟨w1.heap.size, 0, none⟩ = some (.slice sa' 8 sc') := ext_cell (grow_alloc (Below.refl _ _) _) (at_new _ _ 29 _ 0 _ rfl rfl)
  have o1 : ((w1.alloc (.cells #[.slice sa' 8 sc', .slice ra' l.length rc', .slice wa' l.length tc', .slice va' l.length vc'] 29)).alloc (.cells #[.slice (gX l n).ra (gX l n).rs.length (gX l n).rc, .slice (gX l n).ga (gX l n).gs.length (gX l n).gc, .slice (gX l n).sa (gX l n).ss.length (gX l n).sc] 79)).cell? ⟨w1.heap.size, 1, none⟩ = some (.slice ra' l.length rc') := ext_cell (grow_alloc (Below.refl _ _) _) (at_new _ _ 29 _ 1 _ rfl rfl)
  have o2 : ((w1.alloc (.cells #[.slice sa' 8 sc', .slice ra' l.length rc', .slice wa' l.length tc', .slice va' l.length vc'] 29)).alloc (.cells #[.slice (gX l n).ra (gX l n).rs.length (gX l n).rc, .slice (gX l n).ga (gX l n).gs.length (gX l n).gc, .slice (gX l n).sa (gX l n).ss.length (gX l n).sc] 79)).cell? ⟨w1.heap.size, 2, none⟩ = some (.slice wa' l.length tc') := ext_cell (grow_alloc (Below.refl _ _) _) (at_new _ _ 29 _ 2 _ rfl rfl)
  have o3 : ((w1.alloc (.cells #[.slice sa' 8 sc', .slice ra' l.length rc', .slice wa' l.length tc', .slice va' l.length vc'] 29)).alloc (.cells #[.slice (gX l n).ra (gX l n).rs.length (gX l n).rc, .slice (gX l n).ga (gX l n).gs.length (gX l n).gc, .slice (gX l n).sa (gX l n).ss.length (gX l n).sc] 79)).cell? ⟨w1.heap.size, 3, none⟩ = some (.slice va' l.length vc') := ext_cell (grow_alloc (Below.refl _ _) _) (at_new _ _ 29 _ 3 _ rfl rfl)
  have t0 : ((w1.alloc (.cells #[.slice sa' 8 sc', .slice ra' l.length rc', .slice wa' l.length tc', .slice va' l.length vc'] 29)).alloc (.cells #[.slice (gX l n).ra (gX l n).rs.length (gX l n).rc, .slice (gX l n).ga (gX l n).gs.length (gX l n).gc, .slice (gX l n).sa (gX l n).ss.length (gX l n).sc] 79)).cell? ⟨w1.heap.size + 1, 0, none⟩ = some (.slice (gX l n).ra (gX l n).rs.length (gX l n).rc) := at_new _ _ 79 _ 0 _ (by simp) rfl
  have t1 : ((w1.alloc (.cells #[.slice sa' 8 sc', .slice ra' l.length rc', .slice wa' l.length tc', .slice va' l.length vc'] 29)).alloc (.cells #[.slice (gX l n).ra (gX l n).rs.length (gX l n).rc, .slice (gX l n).ga (gX l n).gs.length (gX l n).gc, .slice (gX l n).sa (gX l n).ss.length (gX l n).sc] 79)).cell? ⟨w1.heap.size + 1, 1, none⟩ = some (.slice (gX l n).ga (gX l n).gs.length (gX l n).gc) := at_new _ _ 79 _ 1 _ (by simp) rfl
  have t2 : ((w1.alloc (.cells #[.slice sa' 8 sc', .slice ra' l.length rc', .slice wa' l.length tc', .slice va' l.length vc'] 29)).alloc (.cells #[.slice (gX l n).ra (gX l n).rs.length (gX l n).rc, .slice (gX l n).ga (gX l n).gs.length (gX l n).gc, .slice (gX l n).sa (gX l n).ss.length (gX l n).sc] 79)).cell? ⟨w1.heap.size + 1, 2, none⟩ = some (.slice (gX l n).sa (gX l n).ss.length (gX l n).sc) := at_new _ _ 79 _ 2 _ (by simp) rfl
  have szV : Hid (((w1.alloc (.cells #[.slice sa' 8 sc', .slice ra' l.length rc', .slice wa' l.length tc', .slice va' l.length vc'] 29)).alloc (.cells #[.slice (gX l n).ra (gX l n).rs.length (gX l n).rc, .slice (gX l n).ga (gX l n).gs.length (gX l n).gc, .slice (gX l n).sa (gX l n).ss.length (gX l n).sc] 79)).heap.size = w1.heap.size + 2) := by show _ = _; simp
  have OT : Hid (((w1.alloc (.cells #[.slice sa' 8 sc', .slice ra' l.length rc', .slice wa' l.length tc', .slice va' l.length vc'] 29)).alloc (.cells #[.slice (gX l n).ra (gX l n).rs.length (gX l n).rc, .slice (gX l n).ga (gX l n).gs.length (gX l n).gc, .slice (gX l n).sa (gX l n).ss.length (gX l n).sc] 79)).cell? ⟨w1.heap.size, 0, none⟩ = some (.slice sa' 8 sc') ∧ ((w1.alloc (.cells #[.slice sa' 8 sc', .slice ra' l.length rc', .slice wa' l.length tc', .slice va' l.length vc'] 29)).alloc (.cells #[.slice (gX l n).ra (gX l n).rs.length (gX l n).rc, .slice (gX l n).ga (gX l n).gs.length (gX l n).gc, .slice (gX l n).sa (gX l n).ss.length (gX l n).sc] 79)).cell? ⟨w1.heap.size, 1, none⟩ = some (.slice ra' l.length rc') ∧ ((w1.alloc (.cells #[.slice sa' 8 sc', .slice ra' l.length rc', .slice wa' l.length tc', .slice va' l.length vc'] 29)).alloc (.cells #[.slice (gX l n).ra (gX l n).rs.length (gX l n).rc, .slice (gX l n).ga (gX l n).gs.length (gX l n).gc, .slice (gX l n).sa (gX l n).ss.length (gX l n).sc] 79)).cell? ⟨w1.heap.size, 2, none⟩ = some (.slice wa' l.length tc') ∧ ((w1.alloc (.cells #[.slice sa' 8 sc', .slice ra' l.length rc', .slice wa' l.length tc', .slice va' l.length vc'] 29)).alloc (.cells #[.slice (gX l n).ra (gX l n).rs.length (gX l n).rc, .slice (gX l n).ga (gX l n).gs.length (gX l n).gc, .slice (gX l n).sa (gX l n).ss.length (gX l n).sc] 79)).cell? ⟨w1.heap.size, 3, none⟩ = some (.slice va' l.length vc') ∧ ((w1.alloc (.cells #[.slice sa' 8 sc', .slice ra' l.length rc', .slice wa' l.length tc', .slice va' l.length vc'] 29)).alloc (.cells #[.slice (gX l n).ra (gX l n).rs.length (gX l n).rc, .slice (gX l n).ga (gX l n).gs.length (gX l n).gc, .slice (gX l n).sa (gX l n).ss.length (gX l n).sc] 79)).cell? ⟨w1.heap.size + 1, 0, none⟩ = some (.slice (gX l n).ra (gX l n).rs.length (gX l n).rc) ∧ ((w1.alloc (.cells #[.slice sa' 8 sc', .slice ra' l.length rc', .slice wa' l.length tc', .slice va' l.length vc'] 29)).alloc (.cells #[.slice (gX l n).ra (gX l n).rs.length (gX l n).rc, .slice (gX l n).ga (gX l n).gs.length (gX l n).gc, .slice (gX l n).sa (gX l n).ss.length (gX l n).sc] 79)).cell? ⟨w1.heap.size + 1, 1, none⟩ = some (.slice (gX l n).ga (gX l n).gs.length (gX l n).gc) ∧ ((w1.alloc (.cells #[.slice sa' 8 sc', .slice ra' l.length rc', .slice wa' l.length tc', .slice va' l.length vc'] 29)).alloc (.cells #[.slice (gX l n).ra (gX l n).rs.length (gX l n).rc, .slice (gX l n).ga (gX l n).gs.length (gX l n).gc, .slice (gX l n).sa (gX l n).ss.length (gX l n).sc] 79)).cell? ⟨w1.heap.size + 1, 2, none⟩ = some (.slice (gX l n).sa (gX l n).ss.length (gX l n).sc)) := ⟨o0, o1, o2, o3, t0, t1, t2⟩
  have DD : Hid (DN ((w1.alloc (.cells #[.slice sa' 8 sc', .slice ra' l.length rc', .slice wa' l.length tc', .slice va' l.length vc'] 29)).alloc (.cells #[.slice (gX l n).ra (gX l n).rs.length (gX l n).rc, .slice (gX l n).ga (gX l n).gs.length (gX l n).gc, .slice (gX l n).sa (gX l n).ss.length (gX l n).sc] 79)) ((w1.alloc (.cells #[.slice sa' 8 sc', .slice ra' l.length rc', .slice wa' l.length tc', .slice va' l.length vc'] 29)).alloc (.cells #[.slice (gX l n).ra (gX l n).rs.length (gX l n).rc, .slice (gX l n).ga (gX l n).gs.length (gX l n).gc, .slice (gX l n).sa (gX l n).ss.length (gX l n).sc] 79)) W.heap.size sa' ra' wa' va' sc' l sh S g0 c1 c2 c3 w1.heap.size gr gw gv Br Bw Bv) := ⟨OW.out, Below.refl _ _, fun _ _ _ => rfl, BV.out.size⟩
  clear o0 o1 o2 o3 t0 t1 t2
  obtain ⟨tb, tof, etl, _, v0, v1, v2, _⟩ := (HL.out.below BV1.out) n hn
  have u0 : (w1.alloc (.cells #[.slice sa' 8 sc', .slice ra' l.length rc', .slice wa' l.length tc', .slice va' l.length vc'] 29)).cell? ⟨tb, tof + n * 3, none⟩ = some (.slice (gX l n).ra (gX l n).rs.length (gX l n).rc) := v0
  have u1 : (w1.alloc (.cells #[.slice sa' 8 sc', .slice ra' l.length rc', .slice wa' l.length tc', .slice va' l.length vc'] 29)).cell? ⟨tb, tof + n * 3 + 1, none⟩ = some (.slice (gX l n).ga (gX l n).gs.length (gX l n).gc) := v1
  have u2 : (w1.alloc (.cells #[.slice sa' 8 sc', .slice ra' l.length rc', .slice wa' l.length tc', .slice va' l.length vc'] 29)).cell? ⟨tb, tof + n * 3 + 2, none⟩ = some (.slice (gX l n).sa (gX l n).ss.length (gX l n).sc) := v2
  clear v0 v1 v2
  have hnl : (n : Int) < (l.length : Int) := by omega
  clear hb1 gA gB hown CO p0 p1 q0 q1 q2 q3 r0 r1 r2 s0 s1 s2 s3
  go_upto_region 2 with fail
  obtain ⟨p0, p1, q0, q1, q2, q3, r0, r1, r2, s0, s1, s2, s3⟩ := KEEP.out _ BV1.out
  rw [etl] at p1
  clear etl
  go_upto_region 3 with fail
  clear p0 p1 q0 q1 q2 q3 r0 r1 r2 s0 s1 s2 s3 u0 u1 u2 OW BV1
  generalize ((w1.alloc (.cells #[.slice sa' 8 sc', .slice ra' l.length rc', .slice wa' l.length tc', .slice va' l.length vc'] 29)).alloc (.cells #[.slice (gX l n).ra (gX l n).rs.length (gX l n).rc, .slice (gX l n).ga (gX l n).gs.length (gX l n).gc, .slice (gX l n).sa (gX l n).ss.length (gX l n).sc] 79)) = V at *
  generalize w1.heap.size = hi at *
  obtain ⟨p0, p1, q0, q1, q2, q3, r0, r1, r2, s0, s1, s2, s3⟩ := KEEP.out V BV.out
  have VC : Hid (w.heap.size + 3 < W.heap.size) := by have := sz.out; show _ < _; omega
  go_upto_region 11 with fail
  obtain ⟨⟨o0, o1, o2, o3, t0, t1, t2⟩⟩ : Nonempty _ := ⟨OT.out⟩
  obtain ⟨era, _, _⟩ := DD.out.own.wr.ad (by omega)
  obtain ⟨a1, cc, z0, z1, _, _⟩ := DD.out.own.wr.o n hn
  have z1 := z1 h0
  subst z1
  have z2 := DD.out.own.wr.c n k hn hk
  have z3 := DD.out.own.wr.f n k hn h0
  rw [era] at o2
  have DS : Hid (DN V (V.setCell ⟨Bw n, k, none⟩ (.bool true)) W.heap.size sa' ra' wa' va' sc' l sh { S with wr := setB S.wr n k } g0 c1 c2 c3 hi gr gw gv Br Bw Bv) := by
    have e1 := DD.out.own.h1
    have e2 := DD.out.own.h2
    have e3 := DD.out.own.h3
    have e4 := DD.out.own.h4
    obtain ⟨b1, b2, _⟩ := DD.out.own.wr.b n hn h0
    exact DD.out.set (by omega) (by omega) (DD.out.own.setWr hn hk)
  have hki : (k : Int) < (sh : Int) := by omega
  obtain ⟨M, hM⟩ : ∃ M, madeOf (S.vs.getD n []) (gX l n).gs (gX l n).ss = M := ⟨_, rfl⟩
  have HWX : Hid (writeX sh l S n k = { S with wr := setB S.wr n k, st := putSh sh k S.st (keysOf (gX l n).ss) M }) := by show _ = _; rw [← hM]; rfl
  have hML : M.length ≤ (gX l n).ss.length := by rw [← hM]; unfold madeOf; split <;> simp [allS]
  have hs3 : (gX l n).ss.length ≤ 3 := (many_small _ _ _ (chk_parts HCK.out).1).2.2.1
  have HML : Hid (M.length ≤ (gX l n).ss.length) := hML
  obtain ⟨Z, hZ⟩ : ∃ Z, S.vs.getD n [] = Z := ⟨_, rfl⟩
  have hZL : Z.length = (gX l n).rs.length := by rw [← hZ]; exact HF.out.vn n hn
  rw [hZ] at hM
  have CR : Hid (∀ w', Below W.heap.size W w' → ∃ vb vo ar cr, va = some ⟨vb, vo, none⟩ ∧ w'.cell? ⟨vb, vo + n, none⟩ = some (.slice ar Z.length cr) ∧ ∀ w2, Below w'.heap.size w' w2 → Calls Tryz.prog 82 #[.agg #[.slice (gX l n).ra (gX l n).rs.length (gX l n).rc, .slice (gX l n).ga (gX l n).gs.length (gX l n).gc, .slice (gX l n).sa (gX l n).ss.length (gX l n).sc], .slice ar Z.length cr] w2 fun e w'' => ∃ va vc ma mc, e = .returned (.tuple #[.agg #[.bool (allG Z (gX l n).gs), .slice va Z.length vc], .slice ma M.length mc]) ∧ IsAt w2.heap.size w''.heap.size w'' ma M ∧ Below w2.heap.size w2 w'') := fun w' hb => by
    obtain ⟨b, off, ar, cr, e1, _, c0, c3, hz, _, hzn⟩ := (HS.out.below hb).vs.rows HF.out.vs HF.out.vn n hn
    refine ⟨b, off, ar, cr, e1, by rw [hZL]; exact c0, fun w2 hb2 => ?_⟩
    obtain ⟨_, _, _, _, _, _, _, hx⟩ := ((HL.out.below hb).below hb2) n hn
    have hz' : IsInts w2 ar Z := by rw [← hZ]; exact hz.below hb2
    have h := runOf_any (gX l n).ra (gX l n).ga (gX l n).sa (gX l n).rc (gX l n).gc (gX l n).sc (gX l n).rs (gX l n).gs (gX l n).ss ar cr Z w2 hx.t hz' hzn (by rw [hZL]; exact hr4 n hn) hZL (chk_parts HCK.out).2.2.1 (chk_parts HCK.out).2.2.2 hs3 (many_small _ _ _ (chk_parts HCK.out).1).2.1
    rw [hM] at h
    refine h.mono ?_
    rintro e w3 ⟨a1, a2, a3, a4, rfl, _, h2, h3⟩
    exact ⟨a1, a2, a3, a4, rfl, h2, h3⟩
  clear era hM hZ hZL
  go_region
  all_goals (
    clear p0 p1 q0 q1 q2 q3 r0 r1 r2 s0 s1 s2 s3 o0 o1 o2 o3 t0 t1 t2 z0 z2 z3
    have DS : Hid (DN V ((V.setCell ⟨Bw n, k, none⟩ (.bool true)).drew) W.heap.size sa' ra' wa' va' sc' l sh { S with wr := setB S.wr n k } g0 c1 c2 c3 hi gr gw gv Br Bw Bv) := DS.out.below (grow_drew (Below.refl _ _))
    generalize ((V.setCell ⟨Bw n, k, none⟩ (.bool true)).drew) = V4 at *
    have B4 : Hid (Below W.heap.size W V4) := BV.out.trans DS.out.bl
    obtain ⟨vb, vo, ar, cr, eva, v0, CRR⟩ := CR.out V4 B4.out
    have CRH : Hid (∀ w2, Below V4.heap.size V4 w2 → Calls Tryz.prog 82 #[.agg #[.slice (gX l n).ra (gX l n).rs.length (gX l n).rc, .slice (gX l n).ga (gX l n).gs.length (gX l n).gc, .slice (gX l n).sa (gX l n).ss.length (gX l n).sc], .slice ar Z.length cr] w2 fun e w'' => ∃ va vc ma mc, e = .returned (.tuple #[.agg #[.bool (allG Z (gX l n).gs), .slice va Z.length vc], .slice ma M.length mc]) ∧ IsAt w2.heap.size w''.heap.size w'' ma M ∧ Below w2.heap.size w2 w'') := CRR
    obtain ⟨⟨p0, p1, q0, q1, q2, q3, r0, r1, r2, s0, s1, s2, s3⟩⟩ : Nonempty _ := ⟨KEEP.out V4 B4.out⟩
    obtain ⟨⟨_, _, _, _, t0', t1', t2'⟩⟩ : Nonempty _ := ⟨OT.out⟩
    have t0 := DS.out.high (Nat.le_succ _) t0'
    have t1 := DS.out.high (Nat.le_succ _) t1'
    have t2 := DS.out.high (Nat.le_succ _) t2'
    rw [eva] at q3
    have KS : Hid (∀ w', Below V4.heap.size V4 w' → w'.cell? ⟨w.heap.size + 1, 3, none⟩ = some (.slice (some ⟨vb, vo, none⟩) l.length vc) ∧ w'.cell? ⟨w.heap.size + 2, 1, none⟩ = some (.int .i64 (n : Int)) ∧ w'.cell? ⟨vb, vo + n, none⟩ = some (.slice ar Z.length cr) ∧ w'.cell? ⟨hi + 1, 0, none⟩ = some (.slice (gX l n).ra (gX l n).rs.length (gX l n).rc) ∧ w'.cell? ⟨hi + 1, 1, none⟩ = some (.slice (gX l n).ga (gX l n).gs.length (gX l n).gc) ∧ w'.cell? ⟨hi + 1, 2, none⟩ = some (.slice (gX l n).sa (gX l n).ss.length (gX l n).sc) ∧ Hid (Below V4.heap.size V4 w')) := fun w' hb => ⟨ext_cell hb q3, ext_cell hb r1, ext_cell hb v0, ext_cell hb t0, ext_cell hb t1, ext_cell hb t2, hb⟩
    clear CRR t0' t1' t2' CR eva
    generalize allG Z (gX l n).gs = DDD at *
    go_upto_region 12 with fail
    go_cut [11] (fun m wx => ∃ ma mc, m = .slice ma M.length mc ∧ IsAt V4.heap.size wx.heap.size wx ma M ∧ Below V4.heap.size V4 wx)
    case first =>
      clear p0 p1 q0 q1 q2 q3 r0 r1 r2 s0 s1 s2 s3 t0 t1 t2 v0 HML hML hs3 HG HWX DS B4 HF HS HL HCK KEEP OT DD SF BV hW
      go_region_held3 (fun w' => w'.cell? ⟨w.heap.size + 1, 3, none⟩ = some (.slice (some ⟨vb, vo, none⟩) l.length vc) ∧ w'.cell? ⟨w.heap.size + 2, 1, none⟩ = some (.int .i64 (n : Int)) ∧ w'.cell? ⟨vb, vo + n, none⟩ = some (.slice ar Z.length cr) ∧ w'.cell? ⟨hi + 1, 0, none⟩ = some (.slice (gX l n).ra (gX l n).rs.length (gX l n).rc) ∧ w'.cell? ⟨hi + 1, 1, none⟩ = some (.slice (gX l n).ga (gX l n).gs.length (gX l n).gc) ∧ w'.cell? ⟨hi + 1, 2, none⟩ = some (.slice (gX l n).sa (gX l n).ss.length (gX l n).sc) ∧ Hid (Below V4.heap.size V4 w')) ((refine KS.out _ ?_; go_split_ands; repeat (first | assumption | exact Below.refl _ _ | exact Hid.out (by assumption) | refine grow_drew ?_ | refine grow_alloc ?_ _ | refine grow_set ?_ (by first | exact Nat.le_refl _ | assumption) _ | refine grow_trans ?_ (by assumption))))
        (first
          | (go_at_call 82; refine (CRH.out _ ?_).mono ?_; (go_split_ands; exact Hid.out (by assumption)); rintro e wb ⟨va', vc', ma, mc, rfl, hma, hbb⟩; have hwb := size_le hbb; have hzb : V4.heap.size ≤ wb.heap.size := size_le (grow_trans (by first | exact Below.refl _ _ | exact grow_drew (Below.refl _ _) | exact grow_alloc (Below.refl _ _) _ | exact grow_alloc (grow_drew (Below.refl _ _)) _ | exact grow_drew (grow_alloc (Below.refl _ _) _) : Below V4.heap.size V4 _) hbb); (first | (obtain ⟨x0, x1, xf⟩ := fresh_res (V := V4) hbb rfl) | skip)))
      all_goals (go_wp2_with fail; go_meet)
      all_goals (
        go_split_ands
        first
          | exact ⟨ma, mc, rfl, (hma.below (grow_alloc (Below.refl _ _) _)).widen (by first | exact Nat.le_refl _ | (simp; done)) (by simp), Hid.out (by assumption)⟩
          | exact ⟨ma, mc, rfl, ((hma.set ⟨_, 0, none⟩ _ (.inl (by first | (simp; done) | omega))).set ⟨_, 1, none⟩ _ (.inl (by first | (simp; done) | omega))).widen (by first | exact Nat.le_refl _ | (simp; done)) (by simp), Hid.out (by assumption)⟩)
    case rest =>
      obtain ⟨ma, mc, rfl, hma, hbc⟩ := hcut
      obtain ⟨V5, hren⟩ : ∃ V5 : World, V5 = wc := ⟨_, rfl⟩
      subst hren
      have D5 : Hid (DN V V5 W.heap.size sa' ra' wa' va' sc' l sh { S with wr := setB S.wr n k, st := putSh sh k S.st ((keysOf (gX l n).ss).take 0) (M.take 0) } g0 c1 c2 c3 hi gr gw gv Br Bw Bv) := DS.out.below hbc
      have A5 : Hid (IsAt V4.heap.size V5.heap.size V5 ma M) := hma
      have gW : Hid (g0 < V4.heap.size) := (DS.out.own.st.e (by decide)).2.2.1
      generalize V5.heap.size = hiM at *
      clear hma hbc KS CRH p0 p1 q0 q1 q2 q3 r0 r1 r2 s0 s1 s2 s3 t0 t1 t2 v0 DS B4
      go_wp2
      go_loopw [12] (fun i wr => ∃ j : Nat, j ≤ M.length ∧ i = .int .i64 j ∧ Hid (DN V wr W.heap.size sa' ra' wa' va' sc' l sh { S with wr := setB S.wr n k, st := putSh sh k S.st ((keysOf (gX l n).ss).take j) (M.take j) } g0 c1 c2 c3 hi gr gw gv Br Bw Bv) ∧ Hid (IsAt V4.heap.size hiM wr ma M)) (fun i _ => M.length - (intOf i).toNat)
      case atStart => exact ⟨0, Nat.zero_le _, rfl, D5, A5⟩
      case round =>
        clear D5 A5
        obtain ⟨j, hj, rfl, hD, hA⟩ := hrel
        have BR : Hid (Below W.heap.size W wr) := BV.out.trans hD.out.bl
        obtain ⟨⟨p0, p1, q0, q1, q2, q3, r0, r1, r2, s0, s1, s2, s3⟩⟩ : Nonempty _ := ⟨KEEP.out wr BR.out⟩
        by_cases hlt : j < M.length
        · have i1 : (j : Int) < (M.length : Int) := by omega
          have hjs : j < (gX l n).ss.length := by omega
          obtain ⟨⟨o0', _, _, _, _, _, t2'⟩⟩ : Nonempty _ := ⟨OT.out⟩
          have t2 := hD.out.high (Nat.le_succ _) t2'
          obtain ⟨_, _, _, _, _, _, _, hx⟩ := (HL.out.below BR.out) n hn
          obtain ⟨b', off', ea, _, k0, _⟩ := hx.t.s j hjs
          have hkl : j < (keysOf (gX l n).ss).length := by rw [keys_len]; exact hjs
          have k1 : wr.cell? ⟨b', off' + j * 6, none⟩ = some (.int .i64 ((keysOf (gX l n).ss).getD j 0)) := by rw [keys_get _ j hjs]; exact k0
          have HT : (keysOf (gX l n).ss).getD j 0 ∈ keysOf (gX l n).ss := by
            rw [List.getD_eq_getElem?_getD, List.getElem?_eq_getElem hkl]
            exact List.getElem_mem hkl
          obtain ⟨hz, hz'⟩ := HG.out.s _ HT
          have HP : Hid (putSh sh k S.st ((keysOf (gX l n).ss).take (j + 1)) (M.take (j + 1)) = if ((keysOf (gX l n).ss).getD j 0).toNat % sh = k then (putSh sh k S.st ((keysOf (gX l n).ss).take j) (M.take j)).set ((keysOf (gX l n).ss).getD j 0).toNat (M.getD j 0) else putSh sh k S.st ((keysOf (gX l n).ss).take j) (M.take j)) := putSh_take sh k _ _ _ j hkl hlt
          have HEA : Hid ((gX l n).sa = some ⟨b', off', none⟩) := ea
          rw [show (gX l n).sa = some ⟨b', off', none⟩ from ea] at t2
          clear k0 HT hx t2' o0' ea
          obtain ⟨z, hz0⟩ : ∃ z, (keysOf (gX l n).ss).getD j 0 = z := ⟨_, rfl⟩
          rw [hz0] at k1 hz hz' HP
          obtain ⟨c, rfl⟩ := Int.eq_ofNat_of_zero_le hz
          have hc8 : c < 8 := by omega
          clear hz hz' hz0
          generalize hSS : (gX l n).ss.length = NS at *
          by_cases hq : c % sh = k
          · have hm : ((c : Int) % (sh : Int) == (k : Int)) = true := by rw [beq_iff_eq]; omega
            go_upto_region 16 with fail
            go_quiet (fail)
            obtain ⟨V6, eV6, D6, A6⟩ : ∃ V6, wr.drewN nq = V6 ∧ Hid (DN V V6 W.heap.size sa' ra' wa' va' sc' l sh { S with wr := setB S.wr n k, st := putSh sh k S.st ((keysOf (gX l n).ss).take j) (M.take j) } g0 c1 c2 c3 hi gr gw gv Br Bw Bv) ∧ Hid (IsAt V4.heap.size hiM V6 ma M) := ⟨_, rfl, hD.out.below (drewN_grow (Below.refl _ _) _), hA.out.below (drewN_grow (Below.refl _ _) _)⟩
            have k1' : V6.cell? ⟨b', off' + j * 6, none⟩ = some (.int .i64 (c : Int)) := by rw [← eV6]; exact ext_cell (drewN_grow (Below.refl _ _) _) k1
            have t2' : V6.cell? ⟨hi + 1, 2, none⟩ = some (.slice (some ⟨b', off', none⟩) NS (gX l n).sc) := by rw [← eV6]; exact ext_cell (drewN_grow (Below.refl _ _) _) t2
            rw [eV6]
            clear eV6 hD hA BR p0 p1 q0 q1 q2 q3 r0 r1 r2 s0 s1 s2 s3 t2 k1 hm
            obtain ⟨⟨o0', _, _, _, _, _, _⟩⟩ : Nonempty _ := ⟨OT.out⟩
            have o0 := D6.out.high (Nat.le_refl _) o0'
            obtain ⟨e1, e2, _, e4, e5⟩ := D6.out.own.st.e (by decide)
            have z0 := e4 c hc8
            have z1 := e5 c
            rw [e1] at o0
            obtain ⟨bm, om, em, _, _, m0⟩ := A6.out j hlt
            subst em
            have E2 : Hid (DN V (V6.setCell ⟨g0, c, none⟩ (.int .i64 (M.getD j 0))) W.heap.size sa' ra' wa' va' sc' l sh { S with wr := setB S.wr n k, st := putSh sh k S.st ((keysOf (gX l n).ss).take (j + 1)) (M.take (j + 1)) } g0 c1 c2 c3 hi gr gw gv Br Bw Bv ∧ IsAt V4.heap.size hiM (V6.setCell ⟨g0, c, none⟩ (.int .i64 (M.getD j 0))) (some ⟨bm, om, none⟩) M) := by
              have e := HP.out
              rw [if_pos (by simpa using hq)] at e
              rw [e]
              have q1 := D6.out.own.h1
              have q2 := D6.out.own.h2
              have q3 := D6.out.own.h3
              have q4 := D6.out.own.h4
              exact ⟨D6.out.set (by exact e2) (by omega) (D6.out.own.setS hc8 _), A6.out.set ⟨g0, c, none⟩ _ (.inl gW.out)⟩
            generalize M.getD j 0 = uu at *
            generalize Value.int .i64 ((putSh sh k S.st ((keysOf (gX l n).ss).take j) (M.take j)).getD c 0) = old at *
            have hc8i : (c : Int) < 8 := by omega
            clear D6 HP e4 e5 e1 A6 o0' hq
            go_wp2_with fail
            go_region
            all_goals go_wp2
            all_goals (
              go_roundw
              case rel => exact ⟨j + 1, by omega, by go_num, E2.out.1.below (grow_drew (Below.refl _ _)), E2.out.2.below (grow_drew (Below.refl _ _))⟩
              case measure => simp [intOf]; omega)
          · have hm : ((c : Int) % (sh : Int) == (k : Int)) = false := by
              rw [beq_eq_false_iff_ne]
              intro e
              exact hq (by omega)
            have E2 : Hid (DN V wr W.heap.size sa' ra' wa' va' sc' l sh { S with wr := setB S.wr n k, st := putSh sh k S.st ((keysOf (gX l n).ss).take (j + 1)) (M.take (j + 1)) } g0 c1 c2 c3 hi gr gw gv Br Bw Bv) := by
              have e := HP.out
              rw [if_neg (by simpa using hq)] at e
              rw [e]; exact hD.out
            have E3 : ∀ N', Hid (DN V (wr.drewN N') W.heap.size sa' ra' wa' va' sc' l sh { S with wr := setB S.wr n k, st := putSh sh k S.st ((keysOf (gX l n).ss).take (j + 1)) (M.take (j + 1)) } g0 c1 c2 c3 hi gr gw gv Br Bw Bv ∧ IsAt V4.heap.size hiM (wr.drewN N') ma M) := fun N' => ⟨E2.out.below (drewN_grow (Below.refl _ _) _), hA.out.below (drewN_grow (Below.refl _ _) _)⟩
            clear hD HP hq hA
            go_upto_region 16 with fail
            go_quiet (fail)
            go_wp2
            go_roundw
            case rel => exact ⟨j + 1, by omega, by go_num, (E3 _).out.1, (E3 _).out.2⟩
            case measure => simp [intOf]; omega
        · have hjN : j = M.length := by omega
          subst hjN
          have hD : Hid (DN V wr W.heap.size sa' ra' wa' va' sc' l sh { S with wr := setB S.wr n k, st := putSh sh k S.st (keysOf (gX l n).ss) M } g0 c1 c2 c3 hi gr gw gv Br Bw Bv) := by
            have h := hD.out
            rw [List.take_length, putSh_cut sh k _ _ _ (by rw [keys_len]; exact HML.out)] at h
            exact h
          clear hA
          have i1 : ¬ (M.length : Int) < (M.length : Int) := by omega
          have HQ : Hid (OwnQ W.heap.size l sh (writeX sh l S n k) ⟨sa', ra', wa', va', 8, l.length, l.length, l.length, sc', rc', tc', vc'⟩ wr) := ⟨rfl, rfl, rfl, rfl, g0, c1, c2, c3, hi, gr, gw, gv, Br, Bw, Bv, by rw [HWX.out]; exact hD.out.own⟩
          obtain ⟨⟨o0', o1', o2', o3', _, _, _⟩⟩ : Nonempty _ := ⟨OT.out⟩
          have y0 := hD.out.high (Nat.le_refl _) o0'
          have y1 := hD.out.high (Nat.le_refl _) o1'
          have y2 := hD.out.high (Nat.le_refl _) o2'
          have y3 := hD.out.high (Nat.le_refl _) o3'
          have sf : ∀ j, wr.frozen? ⟨w.heap.size + 3, j, none⟩ = false := fun j => (BR.out.frozen (p := ⟨w.heap.size + 3, j, none⟩) VC.out).trans (SF.out j)
          have vlt := VC.out
          have FS : Hid (StaF w.heap.size (writeX sh l S n k) ⟨sa', ra', wa', va', 8, l.length, l.length, l.length, sc', rc', tc', vc'⟩ ((((wr.setCell ⟨w.heap.size + 3, 0, none⟩ (.slice sa' 8 sc')).setCell ⟨w.heap.size + 3, 1, none⟩ (.slice ra' l.length rc')).setCell ⟨w.heap.size + 3, 2, none⟩ (.slice wa' l.length tc')).setCell ⟨w.heap.size + 3, 3, none⟩ (.slice va' l.length vc'))) := (((((HQ.out.staF h0).set _ 0 _ vlt).set _ 1 _ vlt).set _ 2 _ vlt).set _ 3 _ vlt).low (by omega)
          have FB : Hid (Below w.heap.size w ((((wr.setCell ⟨w.heap.size + 3, 0, none⟩ (.slice sa' 8 sc')).setCell ⟨w.heap.size + 3, 1, none⟩ (.slice ra' l.length rc')).setCell ⟨w.heap.size + 3, 2, none⟩ (.slice wa' l.length tc')).setCell ⟨w.heap.size + 3, 3, none⟩ (.slice va' l.length vc'))) := grow_set (grow_set (grow_set (grow_set (grow_trans hW.out BR.out) (by simp) _) (by simp) _) (by simp) _) (by simp) _
          obtain ⟨x0, x1, x2, x3⟩ := put4 ⟨sa', ra', wa', va', 8, l.length, l.length, l.length, sc', rc', tc', vc'⟩ s0 s1 s2 s3
          dsimp only at x0 x1 x2 x3
          clear o0' o1' o2' o3' hD HQ BR
          go_wp2_with fail
          refine bodyPost_ret (v := .agg #[.slice sa' 8 sc', .slice ra' l.length rc', .slice wa' l.length tc', .slice va' l.length vc']) (by simp [results, Tryz.results71, go_sem, x0, x1, x2, x3]) rfl ⟨⟨sa', ra', wa', va', 8, l.length, l.length, l.length, sc', rc', tc', vc'⟩, rfl, FS.out, FB.out⟩)
end Go.Proofs.YtebjkmknhpgemaaGreat
