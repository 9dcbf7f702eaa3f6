/-
  
  Conditions: those that each theorem states.
-/
import Derived.Test.YtebjkmknhpgemaaGreatUEithB
import Derived.Test.YtebjkmknhpgemaaGreatUDocH
namespace Go.Proofs.YtebjkmknhpgemaaGreat
open Go.RowKit
structure DN (V w : World) (C : Nat) (sa ra wa va : Option Addr) (sc : Nat) (l : List TxA) (sh : Nat) (S : SA) (g0 c1 c2 c3 hi gr gw gv : Nat) (Br Bw Bv : Nat → Nat) : Prop where
 own : OwnSt C w sa ra wa va sc l sh S g0 c1 c2 c3 hi gr gw gv Br Bw Bv
 bl : Below C V w
 up : ∀ b, hi ≤ b → b < V.heap.size → w.heap[b]? = V.heap[b]?
 hC : C ≤ V.heap.size
theorem DN.high {V w : World} {C : Nat} {sa ra wa va : Option Addr} {sc : Nat} {l : List TxA} {sh : Nat} {S : SA} {g0 c1 c2 c3 hi gr gw gv : Nat} {Br Bw Bv : Nat → Nat} (D : DN V w C sa ra wa va sc l sh S g0 c1 c2 c3 hi gr gw gv Br Bw Bv) {b i : Nat} {u : Value} (hb : hi ≤ b) (h : V.cell? ⟨b, i, none⟩ = some u) : w.cell? ⟨b, i, none⟩ = some u := (World.cell?_of_block (a := ⟨b, i, none⟩) (D.up b hb (World.block_lt_of_cell? V ⟨b, i, none⟩ h))).trans h
theorem DN.set {V w : World} {C : Nat} {sa ra wa va : Option Addr} {sc : Nat} {l : List TxA} {sh : Nat} {S : SA} {g0 c1 c2 c3 hi gr gw gv : Nat} {Br Bw Bv : Nat → Nat} {S' : SA} (D : DN V w C sa ra wa va sc l sh S g0 c1 c2 c3 hi gr gw gv Br Bw Bv) {b j : Nat} {u : Value} (h1 : C ≤ b) (h2 : b < hi) (ho : OwnSt C (w.setCell ⟨b, j, none⟩ u) sa ra wa va sc l sh S' g0 c1 c2 c3 hi gr gw gv Br Bw Bv) : DN V (w.setCell ⟨b, j, none⟩ u) C sa ra wa va sc l sh S' g0 c1 c2 c3 hi gr gw gv Br Bw Bv :=
 ⟨ho, D.bl.setCell h1 _, fun c hc hv => (dN w b j u c (by omega)).trans (D.up c hc hv), D.hC⟩
theorem DN.below {V w w' : World} {C : Nat} {sa ra wa va : Option Addr} {sc : Nat} {l : List TxA} {sh : Nat} {S : SA} {g0 c1 c2 c3 hi gr gw gv : Nat} {Br Bw Bv : Nat → Nat} (D : DN V w C sa ra wa va sc l sh S g0 c1 c2 c3 hi gr gw gv Br Bw Bv) (hb : Below w.heap.size w w') : DN V w' C sa ra wa va sc l sh S g0 c1 c2 c3 hi gr gw gv Br Bw Bv :=
 ⟨D.own.below hb, D.bl.trans (hb.mono (Nat.le_trans D.hC D.bl.size)), fun c hc hv => (hb.block c (Nat.lt_of_lt_of_le hv D.bl.size)).trans (D.up c hc hv), D.hC⟩
theorem DN.as {V w : World} {C : Nat} {sa ra wa va : Option Addr} {sc : Nat} {l : List TxA} {sh : Nat} {S : SA} {g0 c1 c2 c3 hi gr gw gv : Nat} {Br Bw Bv : Nat → Nat} {S' : SA} (D : DN V w C sa ra wa va sc l sh S g0 c1 c2 c3 hi gr gw gv Br Bw Bv) (ho : OwnSt C w sa ra wa va sc l sh S' g0 c1 c2 c3 hi gr gw gv Br Bw Bv) : DN V w C sa ra wa va sc l sh S' g0 c1 c2 c3 hi gr gw gv Br Bw Bv := ⟨ho, D.bl, D.up, D.hC⟩
variable (la : Option Addr) (lc : Nat) (l : List TxA) (sa ra wa va : Option Addr) (sc rc tc vc : Nat) (S : SA)
set_option maxRecDepth 100000 in
set_option maxHeartbeats 8000000 in
theorem docDone_read (sh n k : Nat) (w : World) (hl : IsTxs w la l) (hs : Sta w sa ra wa va S) (hp : aP (sh : Int) l = 0) (hF : Form sh l S) (hn : n < l.length) (hk : k < sh) :
  Calls Tryz.prog 71 #[.agg #[.int .i64 (sh : Int), .slice la l.length lc], .agg #[.slice sa S.st.length sc, .slice ra S.rd.length rc, .slice wa S.wr.length tc, .slice va S.vs.length vc], .agg #[.int .i64 1, .int .i64 n, .int .i64 k]] w fun e w' => ∃ q : Q4, e = .returned (.agg #[.slice q.sa q.sn q.sc, .slice q.ra q.rn q.rc, .slice q.wa q.wn q.tc, .slice q.va q.vn q.vc]) ∧ StaF w.heap.size (fG sh l S n k) q w' ∧ Below w.heap.size w w' := by
 obtain ⟨h1z, h4z, hc⟩ := aX hp
 have h0 : 0 < sh := by omega
 have h4 : sh ≤ 4 := by omega
 have h8 := dC hc
 have hr4 : ∀ i, i < l.length → (gX l i).rs.length ≤ 4 := fun i hi => (bK _ _ _ (bZ (cI hc i hi)).1).1
 rw [hF.st, hF.rd, hF.wr, hF.vs]
 obtain ⟨W, hWe⟩ : ∃ W : World, W = ((((w.alloc (.cells #[.int .i64 (sh : Int), .slice la l.length lc] 24)).alloc (.cells #[.slice sa 8 sc, .slice ra l.length rc, .slice wa l.length tc, .slice va l.length vc] 29)).alloc (.cells #[.int .i64 1, .int .i64 (n : Int), .int .i64 (k : Int)] 48)).alloc (.cells #[.slice none 0 0, .slice none 0 0, .slice none 0 0, .slice none 0 0] 29)) := ⟨_, rfl⟩
 have hW : Hid (Below w.heap.size w W) := by subst hWe; exact (aB (aB (aB (aB (Below.refl _ _) _) _) _) _)
 have sz : Hid (W.heap.size = w.heap.size + 4) := by subst hWe; show _ = _; simp
 have p0 : W.cell? ⟨w.heap.size, 0, none⟩ = some (.int .i64 (sh : Int)) := by subst hWe; exact aA (aB (aB (aB (Below.refl _ _) _) _) _) (aE _ _ 24 _ 0 _ (by first | rfl | simp) rfl)
 have p1 : W.cell? ⟨w.heap.size, 1, none⟩ = some (.slice la l.length lc) := by subst hWe; exact aA (aB (aB (aB (Below.refl _ _) _) _) _) (aE _ _ 24 _ 1 _ (by first | rfl | simp) rfl)
 have q0 : W.cell? ⟨w.heap.size + 1, 0, none⟩ = some (.slice sa 8 sc) := by subst hWe; exact aA (aB (aB (Below.refl _ _) _) _) (aE _ _ 29 _ 0 _ (by first | rfl | simp) rfl)
 have q1 : W.cell? ⟨w.heap.size + 1, 1, none⟩ = some (.slice ra l.length rc) := by subst hWe; exact aA (aB (aB (Below.refl _ _) _) _) (aE _ _ 29 _ 1 _ (by first | rfl | simp) rfl)
 have q2 : W.cell? ⟨w.heap.size + 1, 2, none⟩ = some (.slice wa l.length tc) := by subst hWe; exact aA (aB (aB (Below.refl _ _) _) _) (aE _ _ 29 _ 2 _ (by first | rfl | simp) rfl)
 have q3 : W.cell? ⟨w.heap.size + 1, 3, none⟩ = some (.slice va l.length vc) := by subst hWe; exact aA (aB (aB (Below.refl _ _) _) _) (aE _ _ 29 _ 3 _ (by first | rfl | simp) rfl)
 have r0 : W.cell? ⟨w.heap.size + 2, 0, none⟩ = some (.int .i64 1) := by subst hWe; exact aA (aB (Below.refl _ _) _) (aE _ _ 48 _ 0 _ (by first | rfl | simp) rfl)
 have r1 : W.cell? ⟨w.heap.size + 2, 1, none⟩ = some (.int .i64 (n : Int)) := by subst hWe; exact aA (aB (Below.refl _ _) _) (aE _ _ 48 _ 1 _ (by first | rfl | simp) rfl)
 have r2 : W.cell? ⟨w.heap.size + 2, 2, none⟩ = some (.int .i64 (k : Int)) := by subst hWe; exact aA (aB (Below.refl _ _) _) (aE _ _ 48 _ 2 _ (by first | rfl | simp) rfl)
 have s0 : W.cell? ⟨w.heap.size + 3, 0, none⟩ = some (.slice none 0 0) := by subst hWe; exact aA (Below.refl _ _) (aE _ _ 29 _ 0 _ (by first | rfl | simp) rfl)
 have s1 : W.cell? ⟨w.heap.size + 3, 1, none⟩ = some (.slice none 0 0) := by subst hWe; exact aA (Below.refl _ _) (aE _ _ 29 _ 1 _ (by first | rfl | simp) rfl)
 have s2 : W.cell? ⟨w.heap.size + 3, 2, none⟩ = some (.slice none 0 0) := by subst hWe; exact aA (Below.refl _ _) (aE _ _ 29 _ 2 _ (by first | rfl | simp) rfl)
 have s3 : W.cell? ⟨w.heap.size + 3, 3, none⟩ = some (.slice none 0 0) := by subst hWe; exact aA (Below.refl _ _) (aE _ _ 29 _ 3 _ (by first | rfl | simp) rfl)
 have SF : Hid (∀ j, W.frozen? ⟨w.heap.size + 3, j, none⟩ = false) := by subst hWe; exact fun j => aT _ _ 29 _ j (by simp)
 have KEEP : Hid (∀ w', Below W.heap.size W w' → w'.cell? ⟨w.heap.size, 0, none⟩ = some (.int .i64 (sh : Int)) ∧ w'.cell? ⟨w.heap.size, 1, none⟩ = some (.slice la l.length lc) ∧ w'.cell? ⟨w.heap.size + 1, 0, none⟩ = some (.slice sa 8 sc) ∧ w'.cell? ⟨w.heap.size + 1, 1, none⟩ = some (.slice ra l.length rc) ∧ w'.cell? ⟨w.heap.size + 1, 2, none⟩ = some (.slice wa l.length tc) ∧ w'.cell? ⟨w.heap.size + 1, 3, none⟩ = some (.slice va l.length vc) ∧ w'.cell? ⟨w.heap.size + 2, 0, none⟩ = some (.int .i64 1) ∧ w'.cell? ⟨w.heap.size + 2, 1, none⟩ = some (.int .i64 (n : Int)) ∧ w'.cell? ⟨w.heap.size + 2, 2, none⟩ = some (.int .i64 (k : Int)) ∧ w'.cell? ⟨w.heap.size + 3, 0, none⟩ = some (.slice none 0 0) ∧ w'.cell? ⟨w.heap.size + 3, 1, none⟩ = some (.slice none 0 0) ∧ w'.cell? ⟨w.heap.size + 3, 2, none⟩ = some (.slice none 0 0) ∧ w'.cell? ⟨w.heap.size + 3, 3, none⟩ = some (.slice none 0 0)) := fun w' hb => ⟨aA hb p0, aA hb p1, aA hb q0, aA hb q1, aA hb q2, aA hb q3, aA hb r0, aA hb r1, aA hb r2, aA hb s0, aA hb s1, aA hb s2, aA hb s3⟩
 have CO : Hid (Calls Tryz.prog 40 #[.agg #[.slice sa 8 sc, .slice ra l.length rc, .slice wa l.length tc, .slice va l.length vc]] W fun e w' => ∃ sa' ra' wa' va' sc' rc' tc' vc' g0 c1 c2 c3 gr gw gv Br Bw Bv, e = .returned (.agg #[.slice sa' 8 sc', .slice ra' l.length rc', .slice wa' l.length tc', .slice va' l.length vc']) ∧ OwnSt W.heap.size w' sa' ra' wa' va' sc' l sh S g0 c1 c2 c3 w'.heap.size gr gw gv Br Bw Bv ∧ Below W.heap.size W w') := oQ sa ra wa va sc rc tc vc l sh S W h0 h4 h8 hr4 hF (hs.below hW.out)
 have HL : Hid (IsTxs W la l) := hl.below hW.out
 have HS : Hid (Sta W sa ra wa va S) := hs.below hW.out
 have HF : Hid (Form sh l S) := hF
 have HG : Hid (Good (gX l n)) := hI (cI hc n hn)
 have HCK : Hid (bF (gX l n).rs (gX l n).gs (gX l n).ss = 0) := cI hc n hn
 clear hl hs hF hp h1z h4z p0 p1 q0 q1 q2 q3 r0 r1 r2 s0 s1 s2 s3
 have HWe : Hid (W = _) := hWe
 clear hWe
 go_enter Tryz.func71, Tryz.ntmps71
 go_upto_region 1 with fail
 rw [← HWe.out]
 clear HWe
 obtain ⟨p0, p1, q0, q1, q2, q3, r0, r1, r2, s0, s1, s2, s3⟩ := KEEP.out W (Below.refl _ _)
 go_wp2_with fail
 refine CO.out.mono ?_
 rintro e w1 ⟨sa', ra', wa', va', sc', rc', tc', vc', g0, c1, c2, c3, gr, gw, gv, Br, Bw, Bv, rfl, hown, hb1⟩
 have gA : Below w1.heap.size w1 (w1.alloc (.cells #[.slice sa' 8 sc', .slice ra' l.length rc', .slice wa' l.length tc', .slice va' l.length vc'] 29)) := aB (Below.refl _ _) _
 have gB : Below w1.heap.size w1 ((w1.alloc (.cells #[.slice sa' 8 sc', .slice ra' l.length rc', .slice wa' l.length tc', .slice va' l.length vc'] 29)).alloc (.cells #[.slice (gX l n).ra (gX l n).rs.length (gX l n).rc, .slice (gX l n).ga (gX l n).gs.length (gX l n).gc, .slice (gX l n).sa (gX l n).ss.length (gX l n).sc] 79)) := aB gA _
 have OW : Hid (OwnSt W.heap.size ((w1.alloc (.cells #[.slice sa' 8 sc', .slice ra' l.length rc', .slice wa' l.length tc', .slice va' l.length vc'] 29)).alloc (.cells #[.slice (gX l n).ra (gX l n).rs.length (gX l n).rc, .slice (gX l n).ga (gX l n).gs.length (gX l n).gc, .slice (gX l n).sa (gX l n).ss.length (gX l n).sc] 79)) sa' ra' wa' va' sc' l sh S g0 c1 c2 c3 w1.heap.size gr gw gv Br Bw Bv) := hown.below gB
 have BV : Hid (Below W.heap.size W ((w1.alloc (.cells #[.slice sa' 8 sc', .slice ra' l.length rc', .slice wa' l.length tc', .slice va' l.length vc'] 29)).alloc (.cells #[.slice (gX l n).ra (gX l n).rs.length (gX l n).rc, .slice (gX l n).ga (gX l n).gs.length (gX l n).gc, .slice (gX l n).sa (gX l n).ss.length (gX l n).sc] 79))) := aC hb1 gB
 have BV1 : Hid (Below W.heap.size W (w1.alloc (.cells #[.slice sa' 8 sc', .slice ra' l.length rc', .slice wa' l.length tc', .slice va' l.length vc'] 29))) := aC hb1 gA
 have o0 : ((w1.alloc (.cells #[.slice sa' 8 sc', .slice ra' l.length rc', .slice wa' l.length tc', .slice va' l.length vc'] 29)).alloc (.cells #[.slice (gX l n).ra (gX l n).rs.length (gX l n).rc, .slice (gX l n).ga (gX l n).gs.length (gX l n).gc, .slice (gX l n).sa (gX l n).ss.length (gX l n).sc] 79)).cell? ⟨w1.heap.size, 0, none⟩ = some (.slice sa' 8 sc') := aA (aB (Below.refl _ _) _) (aE _ _ 29 _ 0 _ rfl rfl)
 have o1 : ((w1.alloc (.cells #[.slice sa' 8 sc', .slice ra' l.length rc', .slice wa' l.length tc', .slice va' l.length vc'] 29)).alloc (.cells #[.slice (gX l n).ra (gX l n).rs.length (gX l n).rc, .slice (gX l n).ga (gX l n).gs.length (gX l n).gc, .slice (gX l n).sa (gX l n).ss.length (gX l n).sc] 79)).cell? ⟨w1.heap.size, 1, none⟩ = some (.slice ra' l.length rc') := aA (aB (Below.refl _ _) _) (aE _ _ 29 _ 1 _ rfl rfl)
 have o2 : ((w1.alloc (.cells #[.slice sa' 8 sc', .slice ra' l.length rc', .slice wa' l.length tc', .slice va' l.length vc'] 29)).alloc (.cells #[.slice (gX l n).ra (gX l n).rs.length (gX l n).rc, .slice (gX l n).ga (gX l n).gs.length (gX l n).gc, .slice (gX l n).sa (gX l n).ss.length (gX l n).sc] 79)).cell? ⟨w1.heap.size, 2, none⟩ = some (.slice wa' l.length tc') := aA (aB (Below.refl _ _) _) (aE _ _ 29 _ 2 _ rfl rfl)
 have o3 : ((w1.alloc (.cells #[.slice sa' 8 sc', .slice ra' l.length rc', .slice wa' l.length tc', .slice va' l.length vc'] 29)).alloc (.cells #[.slice (gX l n).ra (gX l n).rs.length (gX l n).rc, .slice (gX l n).ga (gX l n).gs.length (gX l n).gc, .slice (gX l n).sa (gX l n).ss.length (gX l n).sc] 79)).cell? ⟨w1.heap.size, 3, none⟩ = some (.slice va' l.length vc') := aA (aB (Below.refl _ _) _) (aE _ _ 29 _ 3 _ rfl rfl)
 have t0 : ((w1.alloc (.cells #[.slice sa' 8 sc', .slice ra' l.length rc', .slice wa' l.length tc', .slice va' l.length vc'] 29)).alloc (.cells #[.slice (gX l n).ra (gX l n).rs.length (gX l n).rc, .slice (gX l n).ga (gX l n).gs.length (gX l n).gc, .slice (gX l n).sa (gX l n).ss.length (gX l n).sc] 79)).cell? ⟨w1.heap.size + 1, 0, none⟩ = some (.slice (gX l n).ra (gX l n).rs.length (gX l n).rc) := aE _ _ 79 _ 0 _ (by simp) rfl
 have t1 : ((w1.alloc (.cells #[.slice sa' 8 sc', .slice ra' l.length rc', .slice wa' l.length tc', .slice va' l.length vc'] 29)).alloc (.cells #[.slice (gX l n).ra (gX l n).rs.length (gX l n).rc, .slice (gX l n).ga (gX l n).gs.length (gX l n).gc, .slice (gX l n).sa (gX l n).ss.length (gX l n).sc] 79)).cell? ⟨w1.heap.size + 1, 1, none⟩ = some (.slice (gX l n).ga (gX l n).gs.length (gX l n).gc) := aE _ _ 79 _ 1 _ (by simp) rfl
 have t2 : ((w1.alloc (.cells #[.slice sa' 8 sc', .slice ra' l.length rc', .slice wa' l.length tc', .slice va' l.length vc'] 29)).alloc (.cells #[.slice (gX l n).ra (gX l n).rs.length (gX l n).rc, .slice (gX l n).ga (gX l n).gs.length (gX l n).gc, .slice (gX l n).sa (gX l n).ss.length (gX l n).sc] 79)).cell? ⟨w1.heap.size + 1, 2, none⟩ = some (.slice (gX l n).sa (gX l n).ss.length (gX l n).sc) := aE _ _ 79 _ 2 _ (by simp) rfl
 have szV : Hid (((w1.alloc (.cells #[.slice sa' 8 sc', .slice ra' l.length rc', .slice wa' l.length tc', .slice va' l.length vc'] 29)).alloc (.cells #[.slice (gX l n).ra (gX l n).rs.length (gX l n).rc, .slice (gX l n).ga (gX l n).gs.length (gX l n).gc, .slice (gX l n).sa (gX l n).ss.length (gX l n).sc] 79)).heap.size = w1.heap.size + 2) := by show _ = _; simp
 have OT : Hid (((w1.alloc (.cells #[.slice sa' 8 sc', .slice ra' l.length rc', .slice wa' l.length tc', .slice va' l.length vc'] 29)).alloc (.cells #[.slice (gX l n).ra (gX l n).rs.length (gX l n).rc, .slice (gX l n).ga (gX l n).gs.length (gX l n).gc, .slice (gX l n).sa (gX l n).ss.length (gX l n).sc] 79)).cell? ⟨w1.heap.size, 0, none⟩ = some (.slice sa' 8 sc') ∧ ((w1.alloc (.cells #[.slice sa' 8 sc', .slice ra' l.length rc', .slice wa' l.length tc', .slice va' l.length vc'] 29)).alloc (.cells #[.slice (gX l n).ra (gX l n).rs.length (gX l n).rc, .slice (gX l n).ga (gX l n).gs.length (gX l n).gc, .slice (gX l n).sa (gX l n).ss.length (gX l n).sc] 79)).cell? ⟨w1.heap.size, 1, none⟩ = some (.slice ra' l.length rc') ∧ ((w1.alloc (.cells #[.slice sa' 8 sc', .slice ra' l.length rc', .slice wa' l.length tc', .slice va' l.length vc'] 29)).alloc (.cells #[.slice (gX l n).ra (gX l n).rs.length (gX l n).rc, .slice (gX l n).ga (gX l n).gs.length (gX l n).gc, .slice (gX l n).sa (gX l n).ss.length (gX l n).sc] 79)).cell? ⟨w1.heap.size, 2, none⟩ = some (.slice wa' l.length tc') ∧ ((w1.alloc (.cells #[.slice sa' 8 sc', .slice ra' l.length rc', .slice wa' l.length tc', .slice va' l.length vc'] 29)).alloc (.cells #[.slice (gX l n).ra (gX l n).rs.length (gX l n).rc, .slice (gX l n).ga (gX l n).gs.length (gX l n).gc, .slice (gX l n).sa (gX l n).ss.length (gX l n).sc] 79)).cell? ⟨w1.heap.size, 3, none⟩ = some (.slice va' l.length vc') ∧ ((w1.alloc (.cells #[.slice sa' 8 sc', .slice ra' l.length rc', .slice wa' l.length tc', .slice va' l.length vc'] 29)).alloc (.cells #[.slice (gX l n).ra (gX l n).rs.length (gX l n).rc, .slice (gX l n).ga (gX l n).gs.length (gX l n).gc, .slice (gX l n).sa (gX l n).ss.length (gX l n).sc] 79)).cell? ⟨w1.heap.size + 1, 0, none⟩ = some (.slice (gX l n).ra (gX l n).rs.length (gX l n).rc) ∧ ((w1.alloc (.cells #[.slice sa' 8 sc', .slice ra' l.length rc', .slice wa' l.length tc', .slice va' l.length vc'] 29)).alloc (.cells #[.slice (gX l n).ra (gX l n).rs.length (gX l n).rc, .slice (gX l n).ga (gX l n).gs.length (gX l n).gc, .slice (gX l n).sa (gX l n).ss.length (gX l n).sc] 79)).cell? ⟨w1.heap.size + 1, 1, none⟩ = some (.slice (gX l n).ga (gX l n).gs.length (gX l n).gc) ∧ ((w1.alloc (.cells #[.slice sa' 8 sc', .slice ra' l.length rc', .slice wa' l.length tc', .slice va' l.length vc'] 29)).alloc (.cells #[.slice (gX l n).ra (gX l n).rs.length (gX l n).rc, .slice (gX l n).ga (gX l n).gs.length (gX l n).gc, .slice (gX l n).sa (gX l n).ss.length (gX l n).sc] 79)).cell? ⟨w1.heap.size + 1, 2, none⟩ = some (.slice (gX l n).sa (gX l n).ss.length (gX l n).sc)) := ⟨o0, o1, o2, o3, t0, t1, t2⟩
 have DD : Hid (DN ((w1.alloc (.cells #[.slice sa' 8 sc', .slice ra' l.length rc', .slice wa' l.length tc', .slice va' l.length vc'] 29)).alloc (.cells #[.slice (gX l n).ra (gX l n).rs.length (gX l n).rc, .slice (gX l n).ga (gX l n).gs.length (gX l n).gc, .slice (gX l n).sa (gX l n).ss.length (gX l n).sc] 79)) ((w1.alloc (.cells #[.slice sa' 8 sc', .slice ra' l.length rc', .slice wa' l.length tc', .slice va' l.length vc'] 29)).alloc (.cells #[.slice (gX l n).ra (gX l n).rs.length (gX l n).rc, .slice (gX l n).ga (gX l n).gs.length (gX l n).gc, .slice (gX l n).sa (gX l n).ss.length (gX l n).sc] 79)) W.heap.size sa' ra' wa' va' sc' l sh S g0 c1 c2 c3 w1.heap.size gr gw gv Br Bw Bv) := ⟨OW.out, Below.refl _ _, fun _ _ _ => rfl, BV.out.size⟩
 clear o0 o1 o2 o3 t0 t1 t2
 obtain ⟨tb, tof, etl, _, v0, v1, v2, _⟩ := (HL.out.below BV1.out) n hn
 have u0 : (w1.alloc (.cells #[.slice sa' 8 sc', .slice ra' l.length rc', .slice wa' l.length tc', .slice va' l.length vc'] 29)).cell? ⟨tb, tof + n * 3, none⟩ = some (.slice (gX l n).ra (gX l n).rs.length (gX l n).rc) := v0
 have u1 : (w1.alloc (.cells #[.slice sa' 8 sc', .slice ra' l.length rc', .slice wa' l.length tc', .slice va' l.length vc'] 29)).cell? ⟨tb, tof + n * 3 + 1, none⟩ = some (.slice (gX l n).ga (gX l n).gs.length (gX l n).gc) := v1
 have u2 : (w1.alloc (.cells #[.slice sa' 8 sc', .slice ra' l.length rc', .slice wa' l.length tc', .slice va' l.length vc'] 29)).cell? ⟨tb, tof + n * 3 + 2, none⟩ = some (.slice (gX l n).sa (gX l n).ss.length (gX l n).sc) := v2
 clear v0 v1 v2
 have hnl : (n : Int) < (l.length : Int) := by omega
 clear hb1 gA gB hown CO p0 p1 q0 q1 q2 q3 r0 r1 r2 s0 s1 s2 s3
 go_upto_region 2 with fail
 obtain ⟨p0, p1, q0, q1, q2, q3, r0, r1, r2, s0, s1, s2, s3⟩ := KEEP.out _ BV1.out
 rw [etl] at p1
 clear etl
 go_upto_region 3 with fail
 clear p0 p1 q0 q1 q2 q3 r0 r1 r2 s0 s1 s2 s3 u0 u1 u2 OW BV1
 generalize ((w1.alloc (.cells #[.slice sa' 8 sc', .slice ra' l.length rc', .slice wa' l.length tc', .slice va' l.length vc'] 29)).alloc (.cells #[.slice (gX l n).ra (gX l n).rs.length (gX l n).rc, .slice (gX l n).ga (gX l n).gs.length (gX l n).gc, .slice (gX l n).sa (gX l n).ss.length (gX l n).sc] 79)) = V at *
 generalize w1.heap.size = hi at *
 obtain ⟨p0, p1, q0, q1, q2, q3, r0, r1, r2, s0, s1, s2, s3⟩ := KEEP.out V BV.out
 have VC : Hid (w.heap.size + 3 < W.heap.size) := by have := sz.out; show _ < _; omega
 go_upto_region 4 with fail
 obtain ⟨⟨o0, o1, o2, o3, t0, t1, t2⟩⟩ : Nonempty _ := ⟨OT.out⟩
 obtain ⟨era, _, _⟩ := DD.out.own.rd.ad (by omega)
 obtain ⟨a1, cc, z0, z1, _, _⟩ := DD.out.own.rd.o n hn
 have z1 := z1 h0
 subst z1
 have z2 := DD.out.own.rd.c n k hn hk
 have z3 := DD.out.own.rd.f n k hn h0
 rw [era] at o1
 have D1 : Hid (DN V (V.setCell ⟨Br n, k, none⟩ (.bool true)) W.heap.size sa' ra' wa' va' sc' l sh { S with rd := cM S.rd n k } g0 c1 c2 c3 hi gr gw gv Br Bw Bv) := by
  have e1 := DD.out.own.h1
  have e2 := DD.out.own.h2
  have e3 := DD.out.own.h3
  have e4 := DD.out.own.h4
  obtain ⟨b1, b2, _⟩ := DD.out.own.rd.b n hn h0
  exact DD.out.set (by omega) (by omega) (DD.out.own.setRd hn hk)
 have hki : (k : Int) < (sh : Int) := by omega
 have DS : Hid (DN V (V.setCell ⟨Br n, k, none⟩ (.bool true)) W.heap.size sa' ra' wa' va' sc' l sh { S with rd := cM S.rd n k, vs := S.vs.set n (cS sh k S.st ((gX l n).rs.take 0) (S.vs.getD n [])) } g0 c1 c2 c3 hi gr gw gv Br Bw Bv) := by
  have e : S.vs.set n (cS sh k S.st ((gX l n).rs.take 0) (S.vs.getD n [])) = S.vs := by
   show S.vs.set n (cS sh k S.st [] (S.vs.getD n [])) = S.vs
   have : cS sh k S.st [] (S.vs.getD n []) = S.vs.getD n [] := by cases S.vs.getD n [] <;> rfl
   rw [this]
   have hnv : n < S.vs.length := by rw [HF.out.vs]; exact hn
   rw [List.getD_eq_getElem?_getD, List.getElem?_eq_getElem hnv]
   simp
  rw [e]
  exact D1.out
 have HVL : Hid ((S.vs.getD n []).length = (gX l n).rs.length) := HF.out.vn n hn
 have FIN : Hid ((gX l n).rs.take (gX l n).rs.length = (gX l n).rs) := List.take_length
 have HRL : Hid (∀ i, i < (gX l n).rs.length → (gX l n).rs.getD i 0 ∈ (gX l n).rs) := fun i hi => by
  rw [List.getD_eq_getElem?_getD, List.getElem?_eq_getElem hi]
  exact List.getElem_mem hi
 have HIX : Hid (∀ w', Below W.heap.size W w' → IsInts w' (gX l n).ra (gX l n).rs) := fun w' hb => by
  obtain ⟨_, _, _, _, _, _, _, hx⟩ := (HL.out.below hb) n hn
  exact hx.t.r
 have HIS : Hid (∀ w', Below W.heap.size W w' → IsInts w' sa S.st) := fun w' hb => (HS.out.below hb).st
 have HRX : Hid (fG sh l S n k = { S with rd := cM S.rd n k, vs := S.vs.set n (cS sh k S.st ((gX l n).rs.take (gX l n).rs.length) (S.vs.getD n [])) }) := by show _ = _; rw [FIN.out]; rfl
 have hl4 : (gX l n).rs.length ≤ 4 := hr4 n hn
 clear era D1
 go_region
 all_goals (
  clear p0 p1 q0 q1 q2 q3 r0 r1 r2 s0 s1 s2 s3 o0 o1 o2 o3 t0 t1 t2 z0 z2 z3
  have DS : Hid (DN V ((V.setCell ⟨Br n, k, none⟩ (.bool true)).drew) W.heap.size sa' ra' wa' va' sc' l sh { S with rd := cM S.rd n k, vs := S.vs.set n (cS sh k S.st ((gX l n).rs.take 0) (S.vs.getD n [])) } g0 c1 c2 c3 hi gr gw gv Br Bw Bv) := DS.out.below (aD (Below.refl _ _))
  generalize ((V.setCell ⟨Br n, k, none⟩ (.bool true)).drew) = V3 at *
  go_wp2
  generalize hN : (gX l n).rs.length = N at *
  go_loopw [9] (fun i wr => ∃ j : Nat, j ≤ N ∧ i = .int .i64 j ∧ Hid (DN V wr W.heap.size sa' ra' wa' va' sc' l sh { S with rd := cM S.rd n k, vs := S.vs.set n (cS sh k S.st ((gX l n).rs.take j) (S.vs.getD n [])) } g0 c1 c2 c3 hi gr gw gv Br Bw Bv)) (fun i _ => N - (intOf i).toNat)
  case atStart => exact ⟨0, Nat.zero_le _, rfl, DS⟩
  case round =>
   clear DS
   obtain ⟨j, hj, rfl, hD⟩ := hrel
   have BR : Hid (Below W.heap.size W wr) := BV.out.trans hD.out.bl
   obtain ⟨⟨p0, p1, q0, q1, q2, q3, r0, r1, r2, s0, s1, s2, s3⟩⟩ : Nonempty _ := ⟨KEEP.out wr BR.out⟩
   obtain ⟨⟨o0, o1, o2, o3, t0, t1, t2⟩⟩ : Nonempty _ := ⟨OT.out⟩
   have t0 := hD.out.high (Nat.le_succ _) t0
   have o3 := hD.out.high (Nat.le_refl _) o3
   clear o0 o1 o2 t1 t2
   by_cases hlt : j < N
   ·have i1 : (j : Int) < (N : Int) := by omega
    obtain ⟨b', off', ea, _, k0⟩ := (HIX.out wr BR.out) j (by omega)
    rw [ea] at t0
    have HT : Hid ((gX l n).rs.getD j 0 ∈ (gX l n).rs) := HRL.out j hlt
    obtain ⟨hz, hz'⟩ := HG.out.r _ HT.out
    generalize hz0 : (gX l n).rs.getD j 0 = z at hz hz' k0 HT
    obtain ⟨c, rfl⟩ := Int.eq_ofNat_of_zero_le hz
    have hc8 : c < 8 := by omega
    have HC : Hid ((gX l n).rs.getD j 0 = (c : Int)) := hz0
    have hVL : Hid (∀ V : List Int, V.length = N → ∀ a, a < l.length → ((S.vs.set n V).getD a []).length = (gX l a).rs.length) := fun V hV a ha => by
     rw [dA _ _ _ _ _ (by rw [HF.out.vs]; exact hn)]
     by_cases e : n = a
     ·subst e; rw [if_pos rfl, hV, hN]
     ·rw [if_neg e]; exact HF.out.vn a ha
    have HML : Hid (∀ i, (cS sh k S.st ((gX l n).rs.take i) (S.vs.getD n [])).length = N) := fun i => by rw [lB, HVL.out]
    have HV : Hid (∀ a m, a < l.length → m < (gX l a).rs.length → ((S.vs.set n (cS sh k S.st ((gX l n).rs.take (j + 1)) (S.vs.getD n []))).getD a []).getD m 0 = if (c % sh == k) = true ∧ a = n ∧ m = j then S.st.getD c 0 else ((S.vs.set n (cS sh k S.st ((gX l n).rs.take j) (S.vs.getD n []))).getD a []).getD m 0) := fun a m ha hm => by
     rw [dA _ _ _ _ _ (by rw [HF.out.vs]; exact hn), dA _ _ _ _ _ (by rw [HF.out.vs]; exact hn)]
     by_cases e : n = a
     ·subst e
      rw [if_pos rfl, if_pos rfl, jD _ _ _ _ _ _ _ (by rw [HVL.out, hN]) hm, jD _ _ _ _ _ _ _ (by rw [HVL.out, hN]) hm]
      by_cases em : m = j
      ·subst em
       simp only [HC.out, Int.toNat_natCast, Nat.lt_succ_self, true_and, Nat.lt_irrefl, false_and, if_false, and_true, beq_iff_eq]
       rfl
      ·have e1 : (m < j + 1) = (m < j) := by simp; omega
       simp only [e1, em, and_false, if_false]
     ·rw [if_neg e, if_neg e, if_neg (fun q => e q.2.1.symm)]
    have HSL : Hid (∀ V : List Int, (S.vs.set n V).length = l.length) := fun V => by rw [List.length_set]; exact HF.out.vs
    clear hz0 HT hz hz'
    by_cases hq : c % sh = k
    ·have hm : ((c : Int) % (sh : Int) == (k : Int)) = true := by rw [beq_iff_eq]; omega
     have hqb : (c % sh == k) = true := by simpa using hq
     go_upto_region 8 with fail
     go_quiet (fail)
     obtain ⟨V4, eV4, D4⟩ : ∃ V4, wr.drewN nq = V4 ∧ Hid (DN V V4 W.heap.size sa' ra' wa' va' sc' l sh { S with rd := cM S.rd n k, vs := S.vs.set n (cS sh k S.st ((gX l n).rs.take j) (S.vs.getD n [])) } g0 c1 c2 c3 hi gr gw gv Br Bw Bv) := ⟨_, rfl, hD.out.below (bE (Below.refl _ _) _)⟩
     rw [eV4]
     have BR4 : Hid (Below W.heap.size W V4) := BV.out.trans D4.out.bl
     clear eV4 hD BR p0 p1 q0 q1 q2 q3 r0 r1 r2 s0 s1 s2 s3 o3 t0 k0 ea hm
     have E2 : Hid (DN V (V4.setCell ⟨Bv n, j, none⟩ (.int .i64 (S.st.getD c 0))) W.heap.size sa' ra' wa' va' sc' l sh { S with rd := cM S.rd n k, vs := S.vs.set n (cS sh k S.st ((gX l n).rs.take (j + 1)) (S.vs.getD n [])) } g0 c1 c2 c3 hi gr gw gv Br Bw Bv) := by
      have o := D4.out.own.setV hn (by rw [hN]; exact hlt) (S.st.getD c 0) (S.vs.set n (cS sh k S.st ((gX l n).rs.take (j + 1)) (S.vs.getD n []))) (fun a m ha hm => by rw [HV.out a m ha hm, hqb]; simp) (HSL.out _) (hVL.out _ (HML.out _))
      have g1 := D4.out.own.h1
      have g2 := D4.out.own.h2
      have g3 := D4.out.own.h3
      obtain ⟨b1, b2, _⟩ := D4.out.own.vs.b n hn (by rw [hN]; omega)
      exact D4.out.set (by omega) (by omega) o
     obtain ⟨⟨p0, p1, q0, q1, q2, q3, r0, r1, r2, s0, s1, s2, s3⟩⟩ : Nonempty _ := ⟨KEEP.out V4 BR4.out⟩
     obtain ⟨⟨o0, o1, o2, o3', t0', t1, t2⟩⟩ : Nonempty _ := ⟨OT.out⟩
     have t0 := D4.out.high (Nat.le_succ _) t0'
     have o3 := D4.out.high (Nat.le_refl _) o3'
     obtain ⟨b', off', ea, _, k0'⟩ := (HIX.out V4 BR4.out) j (by omega)
     have k0 : V4.cell? ⟨b', off' + j, none⟩ = some (.int .i64 (c : Int)) := by rw [← HC.out]; exact k0'
     rw [ea] at t0
     obtain ⟨sb, so, es, _, y0'⟩ := (HIS.out V4 BR4.out) c (by rw [HF.out.st]; exact hc8)
     have y0 : V4.cell? ⟨sb, so + c, none⟩ = some (.int .i64 (S.st.getD c 0)) := y0'
     rw [es] at q0
     obtain ⟨f1, _, _⟩ := D4.out.own.vs.ad (by omega)
     obtain ⟨av, cv, v0, v1, _, _⟩ := D4.out.own.vs.o n hn
     have v1' := v1 (by rw [hN]; omega)
     have v2 := D4.out.own.vs.c n j hn (by rw [hN]; exact hlt)
     have v3 := D4.out.own.vs.f n j hn (by rw [hN]; omega)
     rw [v1', hN] at v0
     rw [f1] at o3
     have hc8i : (c : Int) < 8 := by omega
     clear o0 o1 o2 o3' t0' t1 t2 k0' y0' v1 v1' f1 ea es D4 BR4 HV HSL hVL HML hqb hq
     generalize S.st.getD c 0 = uu at *
     generalize Value.int .i64 (((S.vs.set n (cS sh k S.st ((gX l n).rs.take j) (S.vs.getD n []))).getD n []).getD j 0) = old at *
     go_wp2_with fail
     go_region
     all_goals go_wp2
     all_goals (
      go_roundw
      case rel => exact ⟨j + 1, by omega, by go_num, E2.out.below (aD (Below.refl _ _))⟩
      case measure => simp [intOf]; omega)
    ·have hm : ((c : Int) % (sh : Int) == (k : Int)) = false := by
      rw [beq_eq_false_iff_ne]
      intro e
      exact hq (by omega)
     have hqb : (c % sh == k) = false := by simpa using hq
     have E2 : Hid (DN V wr W.heap.size sa' ra' wa' va' sc' l sh { S with rd := cM S.rd n k, vs := S.vs.set n (cS sh k S.st ((gX l n).rs.take (j + 1)) (S.vs.getD n [])) } g0 c1 c2 c3 hi gr gw gv Br Bw Bv) := hD.out.as (hD.out.own.asV (S.vs.set n (cS sh k S.st ((gX l n).rs.take (j + 1)) (S.vs.getD n []))) (fun a m ha hm => by rw [HV.out a m ha hm, hqb]; simp) (HSL.out _) (hVL.out _ (HML.out _)))
     have E3 : ∀ N', Hid (DN V (wr.drewN N') W.heap.size sa' ra' wa' va' sc' l sh { S with rd := cM S.rd n k, vs := S.vs.set n (cS sh k S.st ((gX l n).rs.take (j + 1)) (S.vs.getD n [])) } g0 c1 c2 c3 hi gr gw gv Br Bw Bv) := fun N' => E2.out.below (bE (Below.refl _ _) _)
     clear hD HV HSL hVL HML hq hqb
     go_upto_region 8 with fail
     go_quiet (fail)
     go_wp2
     go_roundw
     case rel => exact ⟨j + 1, by omega, by go_num, E3 _⟩
     case measure => simp [intOf]; omega
   ·have hjN : j = N := by omega
    subst hjN
    have i1 : ¬ (j : Int) < (j : Int) := by omega
    have HQ : Hid (OwnQ W.heap.size l sh (fG sh l S n k) ⟨sa', ra', wa', va', 8, l.length, l.length, l.length, sc', rc', tc', vc'⟩ wr) := ⟨rfl, rfl, rfl, rfl, g0, c1, c2, c3, hi, gr, gw, gv, Br, Bw, Bv, by rw [HRX.out]; exact hD.out.own⟩
    obtain ⟨⟨o0', o1', o2', o3', _, _, _⟩⟩ : Nonempty _ := ⟨OT.out⟩
    have y0 := hD.out.high (Nat.le_refl _) o0'
    have y1 := hD.out.high (Nat.le_refl _) o1'
    have y2 := hD.out.high (Nat.le_refl _) o2'
    have y3 := hD.out.high (Nat.le_refl _) o3'
    have sf : ∀ j, wr.frozen? ⟨w.heap.size + 3, j, none⟩ = false := fun j => (BR.out.frozen (p := ⟨w.heap.size + 3, j, none⟩) VC.out).trans (SF.out j)
    have vlt := VC.out
    have FS : Hid (StaF w.heap.size (fG sh l S n k) ⟨sa', ra', wa', va', 8, l.length, l.length, l.length, sc', rc', tc', vc'⟩ ((((wr.setCell ⟨w.heap.size + 3, 0, none⟩ (.slice sa' 8 sc')).setCell ⟨w.heap.size + 3, 1, none⟩ (.slice ra' l.length rc')).setCell ⟨w.heap.size + 3, 2, none⟩ (.slice wa' l.length tc')).setCell ⟨w.heap.size + 3, 3, none⟩ (.slice va' l.length vc'))) := (((((HQ.out.staF h0).set _ 0 _ vlt).set _ 1 _ vlt).set _ 2 _ vlt).set _ 3 _ vlt).low (by omega)
    have FB : Hid (Below w.heap.size w ((((wr.setCell ⟨w.heap.size + 3, 0, none⟩ (.slice sa' 8 sc')).setCell ⟨w.heap.size + 3, 1, none⟩ (.slice ra' l.length rc')).setCell ⟨w.heap.size + 3, 2, none⟩ (.slice wa' l.length tc')).setCell ⟨w.heap.size + 3, 3, none⟩ (.slice va' l.length vc'))) := aG (aG (aG (aG (aC hW.out BR.out) (by simp) _) (by simp) _) (by simp) _) (by simp) _
    obtain ⟨x0, x1, x2, x3⟩ := kZ ⟨sa', ra', wa', va', 8, l.length, l.length, l.length, sc', rc', tc', vc'⟩ s0 s1 s2 s3
    dsimp only at x0 x1 x2 x3
    clear o0' o1' o2' o3' hD HQ BR
    go_wp2_with fail
    refine bodyPost_ret (v := .agg #[.slice sa' 8 sc', .slice ra' l.length rc', .slice wa' l.length tc', .slice va' l.length vc']) (by simp [results, Tryz.results71, go_sem, x0, x1, x2, x3]) rfl ⟨⟨sa', ra', wa', va', 8, l.length, l.length, l.length, sc', rc', tc', vc'⟩, rfl, FS.out, FB.out⟩
   )
end Go.Proofs.YtebjkmknhpgemaaGreat
