/-
  
  Conditions: those that each theorem states.
-/
import Derived.Test.YtcgpkonfneofdaaGreatSPlaceF
import Derived.Test.YtcgpkonfneofdaaGreatSAudE
import Derived.Test.YtcgpkonfneofdaaGreatSAudB
set_option maxRecDepth 100000
namespace Go.Proofs.YtcgpkonfneofdaaGreat
open Go.RowKit Go.Maps
def rdE (s : List Int) (l : List TxA) (n : Int) : Int := firstNZ [serE s l, noneE n l.length]
def rdL (s : List Int) (l : List TxA) (N : Nat) : List Int := (l.getD N x0).rs.map (fun key => lB (sRes s l) l key N)
def rdV (s : List Int) (l : List TxA) (n : Int) : List Int := if rdE s l n = 0 then rdL s l n.toNat else []
theorem rdE_zero {s : List Int} {l : List TxA} {n : Int} (h : rdE s l n = 0) : serE s l = 0 ∧ ∃ N : Nat, n = (N : Nat) ∧ N < l.length := by
 have h0 : serE s l = 0 := firstNZ_zero _ h 0
 have h1 : noneE n l.length = 0 := firstNZ_zero _ h 1
 refine ⟨h0, n.toNat, ?_⟩
 unfold noneE at h1
 by_cases c : n < 0 ∨ (l.length : Int) ≤ n
 ·rw [if_pos c] at h1; omega
 ·omega
theorem right_sets {l : List TxA} (h : chkL l = 0) : ∀ k, k < l.length → (l.getD k x0).ss.length ≤ 3 ∧ ∀ j, j < (l.getD k x0).ss.length → 0 ≤ ((l.getD k x0).ss.getD j s0).key ∧ ((l.getD k x0).ss.getD j s0).key ≤ 7 := fun k hk => by
 have h1 : chkTx (l.getD k x0).rs (l.getD k x0).gs (l.getD k x0).ss = 0 := chkL_at h k hk
 generalize l.getD k x0 = x at *
 refine ⟨(many_small _ _ _ (chk_parts h1).1).2.2.1, fun j hj => ?_⟩
 have h2 := rangeE_get (keysOf x.ss) (chk_ranges h1).2 j (by simpa [keysOf] using hj)
 have e : (keysOf x.ss).getD j 0 = (x.ss.getD j s0).key := by simp [keysOf, List.getD, hj]
 rw [e] at h2
 omega
theorem right_reads {l : List TxA} (h : chkL l = 0) : ∀ k, k < l.length → (l.getD k x0).rs.length ≤ 4 ∧ ∀ j, j < (l.getD k x0).rs.length → (Lit.int .i64 ((l.getD k x0).rs.getD j 0)).wf = true := fun k hk => by
 have h1 : chkTx (l.getD k x0).rs (l.getD k x0).gs (l.getD k x0).ss = 0 := chkL_at h k hk
 generalize l.getD k x0 = x at *
 refine ⟨(many_small _ _ _ (chk_parts h1).1).1, fun j hj => ?_⟩
 have h2 := rangeE_get x.rs (chk_ranges h1).1 j hj
 exact WalkArith.wf_i64 (by omega)
variable (sa la : Option Addr) (sc lc : Nat) (s : List Int) (l : List TxA)
set_option maxHeartbeats 2000000 in
theorem rd1_pan (n : Int) (p0 p1 p2 : Nat) (w : World) (h0 : w.cell? ⟨p0, 0, none⟩ = some (.slice sa s.length sc)) (h1 : w.cell? ⟨p1, 0, none⟩ = some (.slice la l.length lc)) (h2 : w.cell? ⟨p2, 0, none⟩ = some (.int .i64 n)) (hs : IsInts w sa s) (hl : IsTxs w la l) (hE : ¬ rdE s l n = 0) :
  Calls Tryz.prog 57 #[.pointer (some ⟨p0, 0, none⟩), .pointer (some ⟨p1, 0, none⟩), .pointer (some ⟨p2, 0, none⟩)] w fun e w' => e = .panicked [{ v := .iface 30 (.int .i64 (rdE s l n)), recovered := false }] ∧ Below w.heap.size w w' := by
 have HE : Hid (¬ firstNZ [serE s l, noneE n l.length] = 0) := hE
 have HV : Hid (rdE s l n = firstNZ [serE s l, noneE n l.length]) := rfl
 have CS : Hid (Calls Tryz.prog 24 #[.slice sa s.length sc, .slice la l.length lc] w fun e w' => ∃ ea ec xa xc, e = .returned (.tuple #[.slice ea (sEnd s l).length ec, .slice xa (sRes s l).length xc, .int .i64 (serE s l)]) ∧ IsRes w' xa (sRes s l) ∧ Below w.heap.size w w') := (serial_any sa la sc lc s l w hs hl).mono (by rintro e w' ⟨ea, ec, xa, xc, rfl, h, hb⟩; exact ⟨ea, ec, xa, xc, rfl, h.res, hb⟩)
 clear hs hl hE
 go_enter Tryz.func57, Tryz.ntmps57
 go_wp2_with fail
 refine CS.out.mono ?_
 rintro e w1 ⟨wa, wc, xa, xc, rfl, _, hb1⟩
 have B1 : Hid (Below w.heap.size w w1) := hb1
 have y1 := ext_cell hb1 h1
 have y2 := ext_cell hb1 h2
 clear h0 h1 h2 hb1 CS
 go_wp2_with fail
 refine (audNone_any la l.length lc n _).mono ?_
 rintro e w2 ⟨rfl, hwe⟩
 subst hwe
 go_wp2_with fail
 refine (leave_nz [serE s l, noneE n l.length] _ 2 _ (by simp) HE.out (errs2 _ _ _ _ (by simp))).mono ?_
 rintro e w3 ⟨rfl, rfl⟩
 go_wp2
 exact ⟨rfl, by rw [HV.out], grow_alloc B1.out _⟩
set_option maxHeartbeats 4000000 in
theorem rd1_ok (N : Nat) (p0 p1 p2 : Nat) (w : World) (h0 : w.cell? ⟨p0, 0, none⟩ = some (.slice sa s.length sc)) (h1 : w.cell? ⟨p1, 0, none⟩ = some (.slice la l.length lc)) (h2 : w.cell? ⟨p2, 0, none⟩ = some (.int .i64 (N : Nat))) (hs : IsInts w sa s) (hl : IsTxs w la l) (hlc : l.length ≤ lc) (hN : N < l.length) (hE : rdE s l (N : Nat) = 0) :
  Calls Tryz.prog 57 #[.pointer (some ⟨p0, 0, none⟩), .pointer (some ⟨p1, 0, none⟩), .pointer (some ⟨p2, 0, none⟩)] w fun e w' => ∃ a c, e = .returned (.slice a (rdL s l N).length c) ∧ IsAt w.heap.size w'.heap.size w' a (rdL s l N) ∧ Below w.heap.size w w' := by
 have HE : Hid (firstNZ [serE s l, noneE (N : Nat) l.length] = 0) := hE
 obtain ⟨z1, _⟩ := rdE_zero hE
 have hc := (serE_zero z1).2
 have hl8 : l.length ≤ 8 := chkL_len hc
 have e1 : sRes s l = serRes s l := if_pos z1
 have hRl : (sRes s l).length = l.length := by rw [e1, serRes_len]
 have CS : Hid (Calls Tryz.prog 24 #[.slice sa s.length sc, .slice la l.length lc] w fun e w' => ∃ ea ec xa xc, e = .returned (.tuple #[.slice ea (sEnd s l).length ec, .slice xa (sRes s l).length xc, .int .i64 (serE s l)]) ∧ IsRes w' xa (sRes s l) ∧ Below w.heap.size w w') := (serial_any sa la sc lc s l w hs hl).mono (by rintro e w' ⟨ea, ec, xa, xc, rfl, h, hb⟩; exact ⟨ea, ec, xa, xc, rfl, h.res, hb⟩)
 obtain ⟨b, off, ela, hbb, c0, c1, c2, hx⟩ := hl N hN
 have HL : Hid (IsTxs w la l) := hl
 have HRS0 : Hid (IsInts w (l.getD N x0).ra (l.getD N x0).rs) := hx.t.r
 obtain ⟨r4, hwf⟩ := right_reads hc N hN
 have HWF0 : Hid (∀ k, k < (l.getD N x0).rs.length → (Lit.int .i64 ((l.getD N x0).rs.getD k 0)).wf = true) := hwf
 have HS3 := right_sets hc
 have HS3' : Hid (∀ k, k < l.length → (l.getD k x0).ss.length ≤ 3 ∧ ∀ j, j < (l.getD k x0).ss.length → 0 ≤ ((l.getD k x0).ss.getD j s0).key ∧ ((l.getD k x0).ss.getD j s0).key ≤ 7) := HS3
 have CL0 : Hid (∀ xa xc w', IsTxs w' la l → IsRes w' xa (sRes s l) → Calls Tryz.prog 60 #[.slice la N lc, .slice xa (sRes s l).length xc] w' fun e w'' => e = .returned (.map (some w'.heap.size)) ∧ (∃ (m : Nat) (D : DataW Unit), w''.ownsMap Tryz.prog 3 (plainElem (H := Unit) Tryz.prog 3) w'.heap.size m D ∧ LastIs D (fun key => lB (sRes s l) l key N)) ∧ Below w'.heap.size w' w'') := fun xa xc w' g1 g2 => setLast_any la xa lc xc l (sRes s l) N w' g1 g2 (by omega) (by omega) hl8 HS3'.out
 have HD : Hid (rdL s l N = (l.getD N x0).rs.map (fun key => lB (sRes s l) l key N)) := rfl
 generalize rdL s l N = RL at *
 obtain ⟨f, hf⟩ : ∃ f, (fun key => lB (sRes s l) l key N) = f := ⟨_, rfl⟩
 rw [hf] at HD CL0
 clear hs hl hE z1 hc hRl e1 hx c1 c2 hwf HS3 HS3' hf
 subst ela
 change w.cell? ⟨b, off + N * 3, none⟩ = some (.slice (l.getD N x0).ra (l.getD N x0).rs.length (l.getD N x0).rc) at c0
 generalize hX : l.getD N x0 = X at *
 obtain ⟨ra, ga, ta, rc, gc, tc, rs, gs, ss⟩ := X
 simp only at c0 r4 HRS0 HWF0 HD
 have HLN : Hid (RL.length = rs.length) := by show _ = _; rw [HD.out, List.length_map]
 rw [HLN.out, HD.out]
 clear hX HLN HD RL
 go_enter Tryz.func57, Tryz.ntmps57
 go_wp2_with fail
 refine CS.out.mono ?_
 rintro e w1 ⟨wa, wc, xa, xc, rfl, hx1, hb1⟩
 have y1 := ext_cell hb1 h1
 have y2 := ext_cell hb1 h2
 have c0 := ext_cell hb1 c0
 go_wp2_with fail
 refine (audNone_any _ l.length lc _ _).mono ?_
 rintro e w2 ⟨rfl, hwe⟩
 subst hwe
 have EW : Hid (Below w2.heap.size w2 (w2.alloc (.cells #[.int .i64 (serE s l), .int .i64 (noneE (N : Nat) l.length)] 30))) := grow_alloc (Below.refl _ _) _
 go_wp2_with fail
 refine (leave_zero [serE s l, noneE (N : Nat) l.length] _ 2 _ (by simp) HE.out (errs2 _ _ _ _ (by simp))).mono ?_
 rintro e w3 ⟨rfl, hwe⟩
 subst hwe
 have y1 := ext_cell EW.out y1
 have y2 := ext_cell EW.out y2
 have c0 := ext_cell EW.out c0
 have B1 : Hid (Below w.heap.size w (w2.alloc (.cells #[.int .i64 (serE s l), .int .i64 (noneE (N : Nat) l.length)] 30))) := grow_trans hb1 EW.out
 have HX1 : Hid (IsRes (w2.alloc (.cells #[.int .i64 (serE s l), .int .i64 (noneE (N : Nat) l.length)] 30)) xa (sRes s l)) := hx1.below EW.out
 have CL : Hid (∀ w', Below (w2.alloc (.cells #[.int .i64 (serE s l), .int .i64 (noneE (N : Nat) l.length)] 30)).heap.size (w2.alloc (.cells #[.int .i64 (serE s l), .int .i64 (noneE (N : Nat) l.length)] 30)) w' → Calls Tryz.prog 60 #[.slice (some ⟨b, off, none⟩) N lc, .slice xa (sRes s l).length xc] w' fun e w'' => e = .returned (.map (some w'.heap.size)) ∧ (∃ (m : Nat) (D : DataW Unit), w''.ownsMap Tryz.prog 3 (plainElem (H := Unit) Tryz.prog 3) w'.heap.size m D ∧ LastIs D f) ∧ Below w'.heap.size w' w'') := fun w' hb => CL0.out xa xc w' (HL.out.below (grow_trans B1.out hb)) (HX1.out.below hb)
 have HRS : Hid (IsInts (w2.alloc (.cells #[.int .i64 (serE s l), .int .i64 (noneE (N : Nat) l.length)] 30)) ra rs) := HRS0.out.below B1.out
 have HWF : Hid (∀ k, k < rs.length → (Lit.int .i64 (rs.getD k 0)).wf = true) := HWF0.out
 clear h0 h1 h2 hb1 CS CL0 hx1 HX1 EW HRS0 HWF0 HL
 go_upto_region 3 with fail
 generalize (w2.alloc (.cells #[.int .i64 (serE s l), .int .i64 (noneE (N : Nat) l.length)] 30)) = V at *
 have j1 : (N : Int) ≤ (lc : Int) := by omega
 have j2 : (N : Int) < (l.length : Int) := by omega
 have KS : Hid (∀ w', Below V.heap.size V w' → w'.cell? ⟨p1, 0, none⟩ = some (.slice (some ⟨b, off, none⟩) l.length lc) ∧ w'.cell? ⟨p2, 0, none⟩ = some (.int .i64 (N : Nat)) ∧ w'.cell? ⟨b, off + N * 3, none⟩ = some (.slice ra rs.length rc)) := fun w' hb => ⟨ext_cell hb y1, ext_cell hb y2, ext_cell hb c0⟩
 clear y1 y2 c0
 refine wp_region_held_drew (S := (fun w' => w'.cell? ⟨p1, 0, none⟩ = some (.slice (some ⟨b, off, none⟩) l.length lc) ∧ w'.cell? ⟨p2, 0, none⟩ = some (.int .i64 (N : Nat)) ∧ w'.cell? ⟨b, off + N * 3, none⟩ = some (.slice ra rs.length rc))) (by kernel_rfl) ?_ (fun hHeld => ?_)
 ·exact KS.out _ (grow_drew (Below.refl _ _))
 refine tk (i := 0) (oi := { dst := some 20, op := .load 22 (.tmp 1), type := 22, pos := "audit.go:37", after := #[], guard := none }) (v := ?_) rfl (by kernel_rfl) (by kernel_rfl) (by kernel_rfl) (fun _ _ _ h => h) (by rfl) (by assumption) ?_ ?_; rotate_left; focus (intro w hSw; go_simp; first | done | with_reducible rfl)
 try simp only [Act.put, List.setIfInBounds_toArray, List.set_cons_zero, List.set_cons_succ]
 refine tk (i := 1) (oi := { dst := some 21, op := .load 3 (.tmp 2), type := 3, pos := "audit.go:37", after := #[], guard := none }) (v := ?_) rfl (by kernel_rfl) (by kernel_rfl) (by kernel_rfl) (fun _ _ _ h => h) (by rfl) (by assumption) ?_ ?_; rotate_left; focus (intro w hSw; go_simp; first | done | with_reducible rfl)
 try simp only [Act.put, List.setIfInBounds_toArray, List.set_cons_zero, List.set_cons_succ]
 refine tk (i := 2) (oi := { dst := some 22, op := .slice 22 (.tmp 20) none (some (.tmp 21)) none, type := 22, pos := "audit.go:37", after := #[{ on := 0, ground := .data }, { on := 1, ground := .data }], guard := none }) (v := ?_) rfl (by kernel_rfl) (by kernel_rfl) (by kernel_rfl) (fun _ _ _ h => h) (by rfl) (by assumption) ?_ ?_; rotate_left; focus (intro w hSw; go_simp; first | done | with_reducible rfl)
 try simp only [Act.put, List.setIfInBounds_toArray, List.set_cons_zero, List.set_cons_succ]
 refine tk (i := 3) (oi := { dst := some 23, op := .move (.tmp 5), type := 33, pos := "audit.go:37", after := #[], guard := none }) (v := ?_) rfl (by kernel_rfl) (by kernel_rfl) (by kernel_rfl) (fun _ _ _ h => h) (by rfl) (by assumption) ?_ ?_; rotate_left; focus (intro w hSw; go_simp; first | done | with_reducible rfl)
 try simp only [Act.put, List.setIfInBounds_toArray, List.set_cons_zero, List.set_cons_succ]
 refine tk (i := 5) (oi := { dst := some 25, op := .load 22 (.tmp 1), type := 22, pos := "audit.go:37", after := #[], guard := none }) (v := ?_) rfl (by kernel_rfl) (by kernel_rfl) (by kernel_rfl) (fun _ _ _ h => h) (by rfl) (by assumption) ?_ ?_; rotate_left; focus (intro w hSw; go_simp; first | done | with_reducible rfl)
 try simp only [Act.put, List.setIfInBounds_toArray, List.set_cons_zero, List.set_cons_succ]
 refine tk (i := 6) (oi := { dst := some 26, op := .load 3 (.tmp 2), type := 3, pos := "audit.go:37", after := #[], guard := none }) (v := ?_) rfl (by kernel_rfl) (by kernel_rfl) (by kernel_rfl) (fun _ _ _ h => h) (by rfl) (by assumption) ?_ ?_; rotate_left; focus (intro w hSw; go_simp; first | done | with_reducible rfl)
 try simp only [Act.put, List.setIfInBounds_toArray, List.set_cons_zero, List.set_cons_succ]
 refine tk (i := 7) (oi := { dst := some 27, op := .indexAddr 22 (.tmp 25) (.tmp 26), type := 0, pos := "audit.go:37", after := #[{ on := 5, ground := .data }, { on := 6, ground := .data }], guard := none }) (v := ?_) rfl (by kernel_rfl) (by kernel_rfl) (by kernel_rfl) (fun _ _ _ h => h) (by rfl) (by assumption) ?_ ?_; rotate_left; focus (intro w hSw; go_simp; first | done | with_reducible rfl)
 try simp only [Act.put, List.setIfInBounds_toArray, List.set_cons_zero, List.set_cons_succ]
 refine tk (i := 8) (oi := { dst := some 28, op := .fieldAddr 61 (.tmp 27) 0, type := 0, pos := "audit.go:37", after := #[{ on := 7, ground := .data }], guard := none }) (v := ?_) rfl (by kernel_rfl) (by kernel_rfl) (by kernel_rfl) (fun _ _ _ h => h) (by rfl) (by assumption) ?_ ?_; rotate_left; focus (intro w hSw; go_simp; first | done | with_reducible rfl)
 try simp only [Act.put, List.setIfInBounds_toArray, List.set_cons_zero, List.set_cons_succ]
 refine tk (i := 9) (oi := { dst := some 29, op := .load 25 (.tmp 28), type := 25, pos := "audit.go:37", after := #[{ on := 8, ground := .data }], guard := none }) (v := ?_) rfl (by kernel_rfl) (by kernel_rfl) (by kernel_rfl) (fun _ _ _ h => h) (by rfl) (by assumption) ?_ ?_; rotate_left; focus (intro w hSw; go_simp; first | done | with_reducible rfl)
 try simp only [Act.put, List.setIfInBounds_toArray, List.set_cons_zero, List.set_cons_succ]
 refine wpAnyH_ready (rs := [4]) (by kernel_rfl) (by simp) ?_
 refine AllReadyH.cons (o := { dst := some 24, op := .call { callee := .value (.func 60), args := #[.tmp 22, .tmp 23], argTypes := #[22, 33] }, type := 117, pos := "audit.go:37", after := #[{ on := 2, ground := .data }, { on := 3, ground := .data }], guard := none }) rfl (fun K hK => ?_) (AllReadyH.nil)
 go_simp
 go_wp2_with (go_at_call 60; refine (CL.out _ (grow_drew (Below.refl _ _))).mono ?_; rintro e w3 ⟨rfl, ⟨mm, D, hown, hlast⟩, hb3⟩)
 have B3 : Hid (Below V.heap.size V w3) := grow_trans (grow_drew (Below.refl _ _)) hb3
 have hlt3 : V.heap.size < w3.heap.size := hown.lt
 clear hHeld
 refine hK.out _ _ (KS.out _ B3.out) (fun hHeld => ?_)
 clear hK K
 refine wpAnyH_ready (rs := [10]) (by kernel_rfl) (by simp) ?_
 refine AllReadyH.cons (o := { dst := some 30, op := .call { callee := .value (.func 59), args := #[.tmp 24, .tmp 29], argTypes := #[117, 25] }, type := 25, pos := "audit.go:37", after := #[{ on := 4, ground := .data }, { on := 9, ground := .data }, { on := 4, ground := .chain }], guard := none }) rfl (fun K hK => ?_) (AllReadyH.nil)
 go_simp
 go_wp2_with (go_at_call 59; refine (readFrom_any ra rc rs _ mm D f w3 hown hlt3 hlast (HRS.out.below B3.out) (by omega) HWF.out).mono ?_; rintro e w4 ⟨a, c, rfl, ha, hb4⟩)
 have B4 : Hid (Below V.heap.size V w4) := grow_trans B3.out hb4
 clear hHeld
 refine hK.out _ _ (KS.out _ B4.out) (fun hHeld => ?_)
 clear hK K
 refine tk (i := 11) (oi := { dst := some 3, op := .assign (.tmp 30), type := 25, pos := "audit.go:37", after := #[{ on := 10, ground := .data }, { on := 10, ground := .chain }, { on := 0, ground := .phase }, { on := 1, ground := .phase }, { on := 2, ground := .phase }, { on := 3, ground := .phase }, { on := 4, ground := .phase }, { on := 5, ground := .phase }, { on := 6, ground := .phase }, { on := 7, ground := .phase }, { on := 8, ground := .phase }, { on := 9, ground := .phase }, { on := 10, ground := .phase }], guard := none }) (v := ?_) rfl (by kernel_rfl) (by kernel_rfl) (by kernel_rfl) (fun _ _ _ h => h) (by rfl) (by assumption) ?_ ?_; rotate_left; focus (intro w hSw; go_simp; first | done | with_reducible rfl)
 try simp only [Act.put, List.setIfInBounds_toArray, List.set_cons_zero, List.set_cons_succ]
 refine wpAnyH_done (by kernel_rfl) ?_ _
 have HA : Hid (IsAt w.heap.size w4.heap.size w4 a (rs.map f)) := ha.widen (grow_trans B1.out B3.out).size (Nat.le_refl _)
 clear hHeld KS ha hb4 hb3 hown hlast B3
 go_wp2
 go_ret
 exact ⟨a, c, rfl, HA.out, grow_trans B1.out B4.out⟩
set_option maxHeartbeats 2000000 in
theorem reads_any' (n : Int) (w : World) (hs : IsInts w sa s) (hl : IsTxs w la l) (hlc : l.length ≤ lc) :
  Calls Tryz.prog 26 #[.slice sa s.length sc, .slice la l.length lc, .int .i64 n] w fun e w' => ∃ a c, e = .returned (.tuple #[.slice a (rdV s l n).length c, .int .i64 (rdE s l n)]) ∧ IsInts w' a (rdV s l n) ∧ Below w.heap.size w w' := by
 have hmf : ∀ (fn : Fn) (first cap : Array Value) (w : World), (Instr.makeFunc fn first cap).run Tryz.prog w = .ok (.func fn first cap) w := fun _ _ _ _ => rfl
 obtain ⟨W, hWe⟩ : ∃ W : World, W = (((w.alloc (.cells #[.slice sa s.length sc] 25)).alloc (.cells #[.slice la l.length lc] 22)).alloc (.cells #[.int .i64 n] 3)) := ⟨_, rfl⟩
 have hU : Hid (Below w.heap.size w W) := by subst hWe; exact (grow_alloc (grow_alloc (grow_alloc (Below.refl _ _) _) _) _)
 have h0 : W.cell? ⟨w.heap.size, 0, none⟩ = some (.slice sa s.length sc) := by subst hWe; exact ext_cell (grow_alloc (grow_alloc (Below.refl _ _) _) _) (at_new _ _ 25 _ 0 _ (by first | rfl | simp) rfl)
 have h1 : W.cell? ⟨w.heap.size + 1, 0, none⟩ = some (.slice la l.length lc) := by subst hWe; exact ext_cell (grow_alloc (Below.refl _ _) _) (at_new _ _ 22 _ 0 _ (by first | rfl | simp) rfl)
 have h2 : W.cell? ⟨w.heap.size + 2, 0, none⟩ = some (.int .i64 n) := by subst hWe; exact ext_cell (Below.refl _ _) (at_new _ _ 3 _ 0 _ (by first | rfl | simp) rfl)
 have CC : Hid (Calls Tryz.prog 56 #[.func (.func 57) #[] #[.pointer (some ⟨w.heap.size, 0, none⟩), .pointer (some ⟨w.heap.size + 1, 0, none⟩), .pointer (some ⟨w.heap.size + 2, 0, none⟩)]] W fun e w' => ∃ a c, e = .returned (.tuple #[.slice a (rdV s l n).length c, .int .i64 (rdE s l n)]) ∧ IsInts w' a (rdV s l n) ∧ Below W.heap.size W w') := by
  have g : Below W.heap.size W (W.alloc (.cells #[.int .i64 0] 30)) := grow_alloc (Below.refl _ _) _
  have gg := grow_trans hU.out g
  have h0 := ext_cell g h0
  have h1 := ext_cell g h1
  have h2 := ext_cell g h2
  by_cases hE : rdE s l n = 0
  ·obtain ⟨_, N, rfl, hN⟩ := rdE_zero hE
   have e1 : rdV s l (N : Nat) = rdL s l N := if_pos hE
   rw [e1, hE]
   refine (caughtIn_ret 57 _ (fun _ => rfl) (fun v w' => ∃ a c, v = .slice a (rdL s l N).length c ∧ IsAt (W.heap.size + 1) w'.heap.size w' a (rdL s l N)) W (fun v w' h => ?_) ((rd1_ok sa la sc lc s l N _ _ _ _ h0 h1 h2 (hs.below gg) (hl.below gg) hlc hN hE).mono ?_)).mono ?_
   ·obtain ⟨a, c, rfl, h⟩ := h
    exact ⟨a, c, rfl, (h.set ⟨W.heap.size, 0, none⟩ _ (.inl (by simp))).widen (Nat.le_refl _) (by simp)⟩
   ·rintro e w' ⟨a, c, rfl, h, hb⟩
    exact ⟨_, rfl, ⟨a, c, rfl, by simpa using h⟩, by simpa using hb⟩
   ·rintro e w' ⟨v, rfl, ⟨a, c, rfl, h⟩, hb⟩
    exact ⟨a, c, rfl, h.ints (Nat.le_refl _), hb⟩
  ·have e1 : rdV s l n = [] := if_neg hE
   rw [e1]
   refine (caughtIn_pan 57 _ (fun _ => rfl) (rdE s l n) W ((rd1_pan sa la sc lc s l n _ _ _ _ h0 h1 h2 (hs.below gg) (hl.below gg) hE).mono ?_)).mono ?_
   ·rintro e w' ⟨rfl, hb⟩
    exact ⟨rfl, by simpa using hb⟩
   ·rintro e w' ⟨rfl, hb⟩
    exact ⟨none, 0, rfl, fun i hi => absurd hi (by simp), hb⟩
 have HWe : Hid (W = _) := hWe
 clear h0 h1 h2 hs hl hWe
 go_enter Tryz.func26, Tryz.ntmps26
 go_upto_region 1 with fail
 rw [← HWe.out]
 clear HWe
 go_wp2_with fail
 refine CC.out.mono ?_
 rintro e w1 ⟨a, c, rfl, ha, hb⟩
 have B1 : Hid (Below w.heap.size w w1) := grow_trans hU.out hb
 have HA : Hid (IsInts w1 a (rdV s l n)) := ha
 clear hb CC ha
 go_wp2
 go_ret2
 exact ⟨a, c, rfl, HA.out, B1.out⟩
end Go.Proofs.YtcgpkonfneofdaaGreat
namespace Go.Proofs.YtcgpkonfneofdaaGreat
open Go.RowKit
def fivA : List Int := [5, 1, 0, 0, 0, 0, 0, 0]
def thA3 (ra ga sa ra2 sa2 sa3 : Option Addr) (rc gc sc rc2 sc2 sc3 : Nat) : List TxA := [xPay ra ga sa rc gc sc, xNote ra2 sa2 rc2 sc2, xMark 9 sa3 sc3]
section
variable (ra ga sa ra2 sa2 sa3 : Option Addr) (rc gc sc rc2 sc2 sc3 : Nat)
theorem ba_se : serE fivA (thA3 ra ga sa ra2 sa2 sa3 rc gc sc rc2 sc2 sc3) = 0 := by kernel_rfl
theorem ba_en : sEnd fivA (thA3 ra ga sa ra2 sa2 sa3 rc gc sc rc2 sc2 sc3) = [2, 4, 0, 0, 0, 4, 0, 9] := by kernel_rfl
theorem ba_rs : sRes fivA (thA3 ra ga sa ra2 sa2 sa3 rc gc sc rc2 sc2 sc3) = [(true, [5, 1]), (true, [4]), (true, [])] := by kernel_rfl
theorem ba_a1 : audE fivA (thA3 ra ga sa ra2 sa2 sa3 rc gc sc rc2 sc2 sc3) [2, 4, 0, 0, 0, 4, 0, 9] [(true, [5, 1]), (true, [4]), (true, [])] = 0 := by kernel_rfl
theorem ba_a2 : audV fivA (thA3 ra ga sa ra2 sa2 sa3 rc gc sc rc2 sc2 sc3) [2, 4, 0, 0, 0, 4, 0, 9] [(true, [5, 1]), (true, [4]), (true, [])] = -1 := by kernel_rfl
theorem ba_b1 : audE fivA (thA3 ra ga sa ra2 sa2 sa3 rc gc sc rc2 sc2 sc3) fivA [(true, [5, 1]), (true, [4]), (true, [])] = 0 := by kernel_rfl
theorem ba_b2 : audV fivA (thA3 ra ga sa ra2 sa2 sa3 rc gc sc rc2 sc2 sc3) fivA [(true, [5, 1]), (true, [4]), (true, [])] = 3 := by kernel_rfl
theorem ba_c1 : rdE fivA (thA3 ra ga sa ra2 sa2 sa3 rc gc sc rc2 sc2 sc3) 1 = 0 := by kernel_rfl
theorem ba_c2 : rdV fivA (thA3 ra ga sa ra2 sa2 sa3 rc gc sc rc2 sc2 sc3) 1 = [0] := by kernel_rfl
theorem ba_d1 : rdE fivA (thA3 ra ga sa ra2 sa2 sa3 rc gc sc rc2 sc2 sc3) 0 = 0 := by kernel_rfl
theorem ba_d2 : rdV fivA (thA3 ra ga sa ra2 sa2 sa3 rc gc sc rc2 sc2 sc3) 0 = [-1, -1] := by kernel_rfl
theorem ba_j : audE fivA (thA3 ra ga sa ra2 sa2 sa3 rc gc sc rc2 sc2 sc3) [] [(true, [5, 1]), (true, [4]), (true, [])] = 1 := by kernel_rfl
theorem ba_j2 : audV fivA (thA3 ra ga sa ra2 sa2 sa3 rc gc sc rc2 sc2 sc3) [] [(true, [5, 1]), (true, [4]), (true, [])] = 0 := by kernel_rfl
end
structure Au (l : List TxA) : Prop where
 n : l.length = 3
 se : serE fivA l = 0
 en : sEnd fivA l = [2, 4, 0, 0, 0, 4, 0, 9]
 rs : sRes fivA l = [(true, [5, 1]), (true, [4]), (true, [])]
 a1 : audE fivA l [2, 4, 0, 0, 0, 4, 0, 9] [(true, [5, 1]), (true, [4]), (true, [])] = 0
 a2 : audV fivA l [2, 4, 0, 0, 0, 4, 0, 9] [(true, [5, 1]), (true, [4]), (true, [])] = -1
 b1 : audE fivA l fivA [(true, [5, 1]), (true, [4]), (true, [])] = 0
 b2 : audV fivA l fivA [(true, [5, 1]), (true, [4]), (true, [])] = 3
 c1 : rdE fivA l 1 = 0
 c2 : rdV fivA l 1 = [0]
 d1 : rdE fivA l 0 = 0
 d2 : rdV fivA l 0 = [-1, -1]
 j1 : audE fivA l [] [(true, [5, 1]), (true, [4]), (true, [])] = 1
 j2 : audV fivA l [] [(true, [5, 1]), (true, [4]), (true, [])] = 0
theorem au_three (ra ga sa ra2 sa2 sa3 : Option Addr) (rc gc sc rc2 sc2 sc3 : Nat) : Au (thA3 ra ga sa ra2 sa2 sa3 rc gc sc rc2 sc2 sc3) := ⟨rfl, ba_se _ _ _ _ _ _ _ _ _ _ _ _, ba_en _ _ _ _ _ _ _ _ _ _ _ _, ba_rs _ _ _ _ _ _ _ _ _ _ _ _, ba_a1 _ _ _ _ _ _ _ _ _ _ _ _, ba_a2 _ _ _ _ _ _ _ _ _ _ _ _, ba_b1 _ _ _ _ _ _ _ _ _ _ _ _, ba_b2 _ _ _ _ _ _ _ _ _ _ _ _, ba_c1 _ _ _ _ _ _ _ _ _ _ _ _, ba_c2 _ _ _ _ _ _ _ _ _ _ _ _, ba_d1 _ _ _ _ _ _ _ _ _ _ _ _, ba_d2 _ _ _ _ _ _ _ _ _ _ _ _, ba_j _ _ _ _ _ _ _ _ _ _ _ _, ba_j2 _ _ _ _ _ _ _ _ _ _ _ _⟩
theorem fivA_any (w : World) : Calls Tryz.prog 25 #[] w fun e w' => ∃ a, e = .returned (.slice a 8 8) ∧ Hid (IsInts w' a fivA) ∧ Below w.heap.size w w' := by
 go_enter Tryz.func25, Tryz.ntmps25
 go_wp2
 go_ret
 refine ⟨_, rfl, fun i hi => ⟨w.heap.size, 0, rfl, by simp, ?_⟩, grow_alloc (Below.refl _ _) _⟩
 rw [Nat.zero_add]
 match i, hi with
 | 0, _ => exact at_new _ _ 3 _ 0 _ rfl rfl
 | 1, _ => exact at_new _ _ 3 _ 1 _ rfl rfl
 | 2, _ => exact at_new _ _ 3 _ 2 _ rfl rfl
 | 3, _ => exact at_new _ _ 3 _ 3 _ rfl rfl
 | 4, _ => exact at_new _ _ 3 _ 4 _ rfl rfl
 | 5, _ => exact at_new _ _ 3 _ 5 _ rfl rfl
 | 6, _ => exact at_new _ _ 3 _ 6 _ rfl rfl
 | 7, _ => exact at_new _ _ 3 _ 7 _ rfl rfl
section
variable {l : List TxA} {w : World} {a5 la ea xa : Option Addr}
theorem ba_ser (A : Au l) (hs : IsInts w a5 fivA) (hl : IsTxs w la l) : Calls Tryz.prog 24 #[.slice a5 8 8, .slice la 3 3] w fun e w' => ∃ ea ec xa xc, e = .returned (.tuple #[.slice ea 8 ec, .slice xa 3 xc, .int .i64 0]) ∧ Hid (IsInts w' ea [2, 4, 0, 0, 0, 4, 0, 9]) ∧ Hid (IsRes w' xa [(true, [5, 1]), (true, [4]), (true, [])]) ∧ Below w.heap.size w w' := by
 have h := serial_any a5 la 8 3 fivA l w hs hl
 rw [A.se, A.en, A.rs, A.n] at h
 exact h.mono (by rintro e w' ⟨ea, ec, xa, xc, rfl, h, hb⟩; exact ⟨ea, ec, xa, xc, rfl, h.ints, h.res, hb⟩)
theorem ba_aud (A : Au l) {ec xc : Nat} {en : List Int} {v x : Int} (hv : audV fivA l en [(true, [5, 1]), (true, [4]), (true, [])] = v) (hx : audE fivA l en [(true, [5, 1]), (true, [4]), (true, [])] = x) (hs : IsInts w a5 fivA) (hl : IsTxs w la l) (he : IsInts w ea en) (hr : IsRes w xa [(true, [5, 1]), (true, [4]), (true, [])]) : Calls Tryz.prog 7 #[.slice a5 8 8, .slice la 3 3, .slice ea en.length ec, .slice xa 3 xc] w fun e w' => e = .returned (.tuple #[.int .i64 v, .int .i64 x]) ∧ Below w.heap.size w w' := by
 have h := audit_any a5 la ea xa 8 3 ec xc fivA l en [(true, [5, 1]), (true, [4]), (true, [])] w hs hl he hr
 rw [hv, hx, A.n] at h
 exact h
theorem ba_rd (A : Au l) {n : Int} {V : List Int} (hv : rdV fivA l n = V) (hx : rdE fivA l n = 0) (hs : IsInts w a5 fivA) (hl : IsTxs w la l) : Calls Tryz.prog 26 #[.slice a5 8 8, .slice la 3 3, .int .i64 n] w fun e w' => ∃ a c, e = .returned (.tuple #[.slice a V.length c, .int .i64 0]) ∧ Hid (IsInts w' a V) ∧ Below w.heap.size w w' := by
 have h := reads_any' a5 la 8 3 fivA l n w hs hl (Nat.le_of_eq A.n)
 rw [hv, hx, A.n] at h
 exact h
end
theorem intA_1 (w : World) (n : Nat) (x0 : Int) (hn : n = w.heap.size) : IsInts (w.alloc (.cells #[.int .i64 x0] 3)) (some ⟨n, 0, none⟩) [x0] := by
 subst hn
 intro i hi
 refine ⟨w.heap.size, 0, rfl, by simp, ?_⟩
 rw [Nat.zero_add]
 match i, hi with
 | 0, _ => exact at_new _ _ 3 _ 0 _ rfl rfl
theorem intA_2 (w : World) (n : Nat) (x0 x1 : Int) (hn : n = w.heap.size) : IsInts (w.alloc (.cells #[.int .i64 x0, .int .i64 x1] 3)) (some ⟨n, 0, none⟩) [x0, x1] := by
 subst hn
 intro i hi
 refine ⟨w.heap.size, 0, rfl, by simp, ?_⟩
 rw [Nat.zero_add]
 match i, hi with
 | 0, _ => exact at_new _ _ 3 _ 0 _ rfl rfl
 | 1, _ => exact at_new _ _ 3 _ 1 _ rfl rfl
set_option maxHeartbeats 4000000 in
theorem auditBegun_any (w : World) : Calls Tryz.prog 6 #[] w fun e w' => e = .returned (.bool true) ∧ Below w.heap.size w w' := by
 go_enter Tryz.func6, Tryz.ntmps6
 go_wp2_with fail
 refine (pay_at 3 _).mono ?_
 rintro e w1 ⟨ra, ga, sa, rc, gc, sc, rfl, ht1, hq1, hb1⟩
 have hx1 : Hid (IsX w1 (xPay ra ga sa rc gc sc)) := ⟨ht1, some_of_ints ht1.r, some_of_gs ht1.g, some_of_ss ht1.s⟩
 clear ht1 hq1
 go_wp2_with fail
 refine (note_at _).mono ?_
 rintro e w2 ⟨ra2, sa2, rc2, sc2, rfl, ht2, hq2, hb2⟩
 have hx2 : Hid (IsX w2 (xNote ra2 sa2 rc2 sc2)) := ⟨ht2, some_of_ints ht2.r, fun _ => rfl, some_of_ss ht2.s⟩
 clear ht2 hq2
 go_wp2_with fail
 refine (mark_at 9 _).mono ?_
 rintro e w3 ⟨sa3, sc3, rfl, ht3, hq3, hb3⟩
 have hx3 : Hid (IsX w3 (xMark 9 sa3 sc3)) := ⟨ht3, fun _ => rfl, fun _ => rfl, some_of_ss ht3.s⟩
 clear ht3 hq3
 have y1 : Hid (IsX w3 (xPay ra ga sa rc gc sc)) := hx1.out.below (grow_trans hb2 hb3)
 have y2 : Hid (IsX w3 (xNote ra2 sa2 rc2 sc2)) := hx2.out.below hb3
 have BB : Hid (Below w.heap.size w (w3.alloc (.cells #[.slice ra 2 rc, .slice ga 1 gc, .slice sa 2 sc, .slice ra2 1 rc2, .slice none 0 0, .slice sa2 1 sc2, .slice none 0 0, .slice none 0 0, .slice sa3 1 sc3] 61))) := grow_alloc (grow_trans hb1 (grow_trans hb2 hb3)) _
 have TT : Hid (IsTxs (w3.alloc (.cells #[.slice ra 2 rc, .slice ga 1 gc, .slice sa 2 sc, .slice ra2 1 rc2, .slice none 0 0, .slice sa2 1 sc2, .slice none 0 0, .slice none 0 0, .slice sa3 1 sc3] 61)) (some ⟨w3.heap.size, 0, none⟩) (thA3 ra ga sa ra2 sa2 sa3 rc gc sc rc2 sc2 sc3)) := isTxs_three _ (xPay ra ga sa rc gc sc) (xNote ra2 sa2 rc2 sc2) (xMark 9 sa3 sc3) _ rfl y1.out y2.out hx3.out
 have AU : Hid (Au (thA3 ra ga sa ra2 sa2 sa3 rc gc sc rc2 sc2 sc3)) := au_three ra ga sa ra2 sa2 sa3 rc gc sc rc2 sc2 sc3
 clear hx1 hx2 hx3 y1 y2 hb1 hb2 hb3
 go_upto_region 2 with fail
 generalize (w3.alloc (.cells #[.slice ra 2 rc, .slice ga 1 gc, .slice sa 2 sc, .slice ra2 1 rc2, .slice none 0 0, .slice sa2 1 sc2, .slice none 0 0, .slice none 0 0, .slice sa3 1 sc3] 61)) = W at *
 generalize (thA3 ra ga sa ra2 sa2 sa3 rc gc sc rc2 sc2 sc3) = l at *
 generalize (some (⟨w3.heap.size, 0, none⟩ : Addr)) = la at *
 go_wp2_with fail
 refine (fivA_any _).mono ?_
 rintro e f0 ⟨a0, rfl, hi0, hf0⟩
 go_wp2_with fail
 refine (ba_ser AU.out hi0.out (TT.out.below hf0)).mono ?_
 rintro e w4 ⟨ea, ec, xa, xc, rfl, he, hr, hb4⟩
 have B4 : Hid (Below W.heap.size W w4) := grow_trans hf0 hb4
 clear hf0 hb4 hi0
 go_wp2_with fail
 refine (fivA_any _).mono ?_
 rintro e f1 ⟨a1, rfl, hi1, hf1⟩
 go_wp2_with fail
 refine (ba_aud (en := [2, 4, 0, 0, 0, 4, 0, 9]) AU.out AU.out.a2 AU.out.a1 hi1.out (TT.out.below (grow_trans B4.out hf1)) (he.out.below hf1) (hr.out.below hf1)).mono ?_
 rintro e w5 ⟨rfl, hb5⟩
 have C5 : Hid (Below w4.heap.size w4 w5) := grow_trans hf1 hb5
 clear hf1 hb5 hi1 he
 go_wp2_with fail
 refine (fivA_any _).mono ?_
 rintro e f2 ⟨a2, rfl, hi2, hf2⟩
 go_wp2_with fail
 refine (fivA_any _).mono ?_
 rintro e f3 ⟨a3, rfl, hi3, hf3⟩
 go_wp2_with fail
 refine (ba_aud (en := fivA) AU.out AU.out.b2 AU.out.b1 (hi2.out.below hf3) (TT.out.below (grow_trans B4.out (grow_trans C5.out (grow_trans hf2 hf3)))) hi3.out (hr.out.below (grow_trans C5.out (grow_trans hf2 hf3)))).mono ?_
 rintro e w6 ⟨rfl, hb6⟩
 have C6 : Hid (Below w4.heap.size w4 w6) := grow_trans C5.out (grow_trans hf2 (grow_trans hf3 hb6))
 clear hf2 hf3 hb6 hi2 hi3 C5
 go_wp2_with fail
 refine (fivA_any _).mono ?_
 rintro e f4 ⟨a4, rfl, hi4, hf4⟩
 go_wp2_with fail
 refine (ba_rd AU.out AU.out.c2 AU.out.c1 hi4.out (TT.out.below (grow_trans B4.out (grow_trans C6.out hf4)))).mono ?_
 rintro e w7 ⟨ca, cc, rfl, hc, hb7⟩
 have C7 : Hid (Below w4.heap.size w4 w7) := grow_trans C6.out (grow_trans hf4 hb7)
 clear hf4 hb7 hi4 C6
 go_wp2_with fail
 refine (fivA_any _).mono ?_
 rintro e f5 ⟨a5, rfl, hi5, hf5⟩
 go_wp2_with fail
 refine (ba_rd AU.out AU.out.d2 AU.out.d1 hi5.out (TT.out.below (grow_trans B4.out (grow_trans C7.out hf5)))).mono ?_
 rintro e w8 ⟨da, dc, rfl, hd, hb8⟩
 have C8 : Hid (Below w4.heap.size w4 w8) := grow_trans C7.out (grow_trans hf5 hb8)
 have hc8 : Hid (IsInts w8 ca [0]) := hc.out.below (grow_trans hf5 hb8)
 clear hf5 hb8 hi5 C7 hc
 go_wp2_with fail
 refine (fivA_any _).mono ?_
 rintro e f6 ⟨a6, rfl, hi6, hf6⟩
 go_wp2_with fail
 refine (ba_aud (en := []) (ea := none) (ec := 0) AU.out AU.out.j2 AU.out.j1 hi6.out (TT.out.below (grow_trans B4.out (grow_trans C8.out hf6))) (fun i hi => absurd hi (by simp)) (hr.out.below (grow_trans C8.out hf6))).mono ?_
 rintro e w9 ⟨rfl, hb9⟩
 have D9 : Below w8.heap.size w8 w9 := grow_trans hf6 hb9
 have hc9 : Hid (IsInts w9 ca [0]) := hc8.out.below D9
 have hd9 : Hid (IsInts w9 da [-1, -1]) := hd.out.below D9
 have B9 : Hid (Below w.heap.size w w9) := grow_trans BB.out (grow_trans B4.out (grow_trans C8.out D9))
 clear hf6 hb9 hi6 D9 hc8 hd C8 hr B4 BB TT AU
 go_wp2_with fail
 refine (sameInts_any [0] [0] ca _ cc 1 _ (by decide) (hc9.out.below (grow_alloc (Below.refl _ _) _)) (intA_1 _ _ _ rfl)).mono ?_
 rintro e w10 ⟨rfl, hb10⟩
 have B10 : Hid (Below w.heap.size w w10) := grow_trans B9.out (grow_trans (grow_alloc (Below.refl _ _) _) hb10)
 have hd10 : Hid (IsInts w10 da [-1, -1]) := hd9.out.below (grow_trans (grow_alloc (Below.refl _ _) _) hb10)
 clear hb10 hc9 hd9 B9
 go_wp2_with fail
 refine (sameInts_any [-1, -1] [-1, -1] da _ dc 2 _ (by decide) (hd10.out.below (grow_alloc (Below.refl _ _) _)) (intA_2 _ _ _ _ rfl)).mono ?_
 rintro e w11 ⟨rfl, hb11⟩
 have B11 : Hid (Below w.heap.size w w11) := grow_trans B10.out (grow_trans (grow_alloc (Below.refl _ _) _) hb11)
 clear hb11
 go_wp2
 go_ret
 exact ⟨rfl, B11.out⟩
end Go.Proofs.YtcgpkonfneofdaaGreat
