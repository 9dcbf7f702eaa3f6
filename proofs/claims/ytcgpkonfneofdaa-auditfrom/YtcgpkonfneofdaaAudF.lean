/-
  Audit: Reads.
  Conditions: those that each theorem states.
-/
import Derived.Test.YtcgpkonfneofdaaAudE
import Derived.Test.YtcgpkonfneofdaaAudB
import Derived.WalkKit
import Derived.WalkSpells
import Derived.WalkLawsBesides
import Derived.Defers
import Derived.Recover
import Derived.ProofKit
import Derived.Deep.RegionHeld
import Derived.Deep.RegionHeld3
import Derived.Deep.RegionLaw
import Derived.Deep.DeepCutAuto
import Derived.Deep.QuietTactic
import Derived.BigQuiet
import Derived.Maps.AppendAt
import Derived.Lib.SliceRun
import Derived.Deep.AppendLies
namespace Go.Proofs.Ytcgpkonfneofdaa
open Go.RowKit Go.Maps

/-- The error of Reads, and what it answers. -/
def rdE (s : List Int) (l : List TxA) (n : Int) : Int := firstNZ [serE s l, noneE n l.length]
def rdL (s : List Int) (l : List TxA) (N : Nat) : List Int := (l.getD N x0).rs.map (fun key => lB (sRes s l) l key N)
def rdV (s : List Int) (l : List TxA) (n : Int) : List Int := if rdE s l n = 0 then rdL s l n.toNat else []
theorem rdE_zero {s : List Int} {l : List TxA} {n : Int} (h : rdE s l n = 0) : serE s l = 0 ∧ ∃ N : Nat, n = (N : Nat) ∧ N < l.length := by
  have h0 : serE s l = 0 := firstNZ_zero _ h 0
  have h1 : noneE n l.length = 0 := firstNZ_zero _ h 1
  refine ⟨h0, n.toNat, ?_⟩
  unfold noneE at h1
  by_cases c : n < 0 ∨ (l.length : Int) ≤ n
  · rw [if_pos c] at h1; omega
  · omega
/-- What a list that is right tells of its sets and reads. -/
theorem right_sets {l : List TxA} (h : chkL l = 0) : ∀ k, k < l.length → (l.getD k x0).ss.length ≤ 3 ∧ ∀ j, j < (l.getD k x0).ss.length → 0 ≤ ((l.getD k x0).ss.getD j s0).key ∧ ((l.getD k x0).ss.getD j s0).key ≤ 7 := fun k hk => by
  have h1 : chkTx (l.getD k x0).rs (l.getD k x0).gs (l.getD k x0).ss = 0 := chkL_at h k hk
  generalize l.getD k x0 = x at *
  refine ⟨(many_small _ _ _ (chk_parts h1).1).2.2.1, fun j hj => ?_⟩
  have h2 := rangeE_get (keysOf x.ss) (chk_ranges h1).2 j (by simpa [keysOf] using hj)
  have e : (keysOf x.ss).getD j 0 = (x.ss.getD j s0).key := by simp [keysOf, List.getD, hj]
  rw [e] at h2
  omega
theorem right_reads {l : List TxA} (h : chkL l = 0) : ∀ k, k < l.length → (l.getD k x0).rs.length ≤ 4 ∧ ∀ j, j < (l.getD k x0).rs.length → (Lit.int .i64 ((l.getD k x0).rs.getD j 0)).wf = true := fun k hk => by
  have h1 : chkTx (l.getD k x0).rs (l.getD k x0).gs (l.getD k x0).ss = 0 := chkL_at h k hk
  generalize l.getD k x0 = x at *
  refine ⟨(many_small _ _ _ (chk_parts h1).1).1, fun j hj => ?_⟩
  have h2 := rangeE_get x.rs (chk_ranges h1).1 j hj
  exact WalkArith.wf_i64 (by omega)

variable (sa la : Option Addr) (sc lc : Nat) (s : List Int) (l : List TxA)

set_option maxRecDepth 100000 in
set_option maxHeartbeats 2000000 in
theorem rd1_pan (n : Int) (p0 p1 p2 : Nat) (w : World) (h0 : w.cell? ⟨p0, 0, none⟩ = some (.slice sa s.length sc)) (h1 : w.cell? ⟨p1, 0, none⟩ = some (.slice la l.length lc)) (h2 : w.cell? ⟨p2, 0, none⟩ = some (.int .i64 n)) (hs : IsInts w sa s) (hl : IsTxs w la l) (hE : ¬ rdE s l n = 0) :
    Calls Try.prog 31 #[.pointer (some ⟨p0, 0, none⟩), .pointer (some ⟨p1, 0, none⟩), .pointer (some ⟨p2, 0, none⟩)] w fun e w' => e = .panicked [{ v := .iface 25 (.int .i64 (rdE s l n)), recovered := false }] ∧ Below w.heap.size w w' := by
  have HE : Hid (¬ firstNZ [serE s l, noneE n l.length] = 0) := hE
  have HV : Hid (rdE s l n = firstNZ [serE s l, noneE n l.length]) := rfl
  have CS : Hid (Calls Try.prog 13 #[.slice sa s.length sc, .slice la l.length lc] w fun e w' => ∃ ea ec xa xc, e = .returned (.tuple #[.slice ea (sEnd s l).length ec, .slice xa (sRes s l).length xc, .int .i64 (serE s l)]) ∧ IsRes w' xa (sRes s l) ∧ Below w.heap.size w w') := (serial_any sa la sc lc s l w hs hl).mono (by rintro e w' ⟨ea, ec, xa, xc, rfl, h, hb⟩; exact ⟨ea, ec, xa, xc, rfl, h.res, hb⟩)
  clear hs hl hE
  go_enter Try.func31, Try.ntmps31
  go_wp2_with fail
  refine CS.out.mono ?_
  rintro e w1 ⟨wa, wc, xa, xc, rfl, _, hb1⟩
  have B1 : Hid (Below w.heap.size w w1) := hb1
  have y1 := ext_cell hb1 h1
  have y2 := ext_cell hb1 h2
  clear h0 h1 h2 hb1 CS
  go_wp2_with fail
  refine (audNone_any la l.length lc n _).mono ?_
  rintro e w2 ⟨rfl, hwe⟩
  subst hwe
  go_wp2_with fail
  refine (leave_nz [serE s l, noneE n l.length] _ 2 _ (by simp) HE.out (errs2 _ _ _ _ (by simp))).mono ?_
  rintro e w3 ⟨rfl, rfl⟩
  go_wp2
  exact ⟨rfl, by rw [HV.out], grow_alloc B1.out _⟩

set_option maxRecDepth 100000 in
set_option maxHeartbeats 4000000 in
theorem rd1_ok (N : Nat) (p0 p1 p2 : Nat) (w : World) (h0 : w.cell? ⟨p0, 0, none⟩ = some (.slice sa s.length sc)) (h1 : w.cell? ⟨p1, 0, none⟩ = some (.slice la l.length lc)) (h2 : w.cell? ⟨p2, 0, none⟩ = some (.int .i64 (N : Nat))) (hs : IsInts w sa s) (hl : IsTxs w la l) (hlc : l.length ≤ lc) (hN : N < l.length) (hE : rdE s l (N : Nat) = 0) :
    Calls Try.prog 31 #[.pointer (some ⟨p0, 0, none⟩), .pointer (some ⟨p1, 0, none⟩), .pointer (some ⟨p2, 0, none⟩)] w fun e w' => ∃ a c, e = .returned (.slice a (rdL s l N).length c) ∧ IsAt w.heap.size w'.heap.size w' a (rdL s l N) ∧ Below w.heap.size w w' := by
  have HE : Hid (firstNZ [serE s l, noneE (N : Nat) l.length] = 0) := hE
  obtain ⟨z1, _⟩ := rdE_zero hE
  have hc := (serE_zero z1).2
  have hl8 : l.length ≤ 8 := chkL_len hc
  have e1 : sRes s l = serRes s l := if_pos z1
  have hRl : (sRes s l).length = l.length := by rw [e1, serRes_len]
  have CS : Hid (Calls Try.prog 13 #[.slice sa s.length sc, .slice la l.length lc] w fun e w' => ∃ ea ec xa xc, e = .returned (.tuple #[.slice ea (sEnd s l).length ec, .slice xa (sRes s l).length xc, .int .i64 (serE s l)]) ∧ IsRes w' xa (sRes s l) ∧ Below w.heap.size w w') := (serial_any sa la sc lc s l w hs hl).mono (by rintro e w' ⟨ea, ec, xa, xc, rfl, h, hb⟩; exact ⟨ea, ec, xa, xc, rfl, h.res, hb⟩)
  obtain ⟨b, off, ela, hbb, c0, c1, c2, hx⟩ := hl N hN
  have HL : Hid (IsTxs w la l) := hl
  have HRS0 : Hid (IsInts w (l.getD N x0).ra (l.getD N x0).rs) := hx.t.r
  obtain ⟨r4, hwf⟩ := right_reads hc N hN
  have HWF0 : Hid (∀ k, k < (l.getD N x0).rs.length → (Lit.int .i64 ((l.getD N x0).rs.getD k 0)).wf = true) := hwf
  have HS3 := right_sets hc
  have HS3' : Hid (∀ k, k < l.length → (l.getD k x0).ss.length ≤ 3 ∧ ∀ j, j < (l.getD k x0).ss.length → 0 ≤ ((l.getD k x0).ss.getD j s0).key ∧ ((l.getD k x0).ss.getD j s0).key ≤ 7) := HS3
  have CL0 : Hid (∀ xa xc w', IsTxs w' la l → IsRes w' xa (sRes s l) → Calls Try.prog 34 #[.slice la N lc, .slice xa (sRes s l).length xc] w' fun e w'' => e = .returned (.map (some w'.heap.size)) ∧ (∃ (m : Nat) (D : DataW Unit), w''.ownsMap Try.prog 3 (plainElem (H := Unit) Try.prog 3) w'.heap.size m D ∧ LastIs D (fun key => lB (sRes s l) l key N)) ∧ Below w'.heap.size w' w'') := fun xa xc w' g1 g2 => setLast_any la xa lc xc l (sRes s l) N w' g1 g2 (by omega) (by omega) hl8 HS3'.out
  have HD : Hid (rdL s l N = (l.getD N x0).rs.map (fun key => lB (sRes s l) l key N)) := rfl
  generalize rdL s l N = RL at *
  obtain ⟨f, hf⟩ : ∃ f, (fun key => lB (sRes s l) l key N) = f := ⟨_, rfl⟩
  rw [hf] at HD CL0
  clear hs hl hE z1 hc hRl e1 hx c1 c2 hwf HS3 HS3' hf
  subst ela
  change w.cell? ⟨b, off + N * 3, none⟩ = some (.slice (l.getD N x0).ra (l.getD N x0).rs.length (l.getD N x0).rc) at c0
  generalize hX : l.getD N x0 = X at *
  obtain ⟨ra, ga, ta, rc, gc, tc, rs, gs, ss⟩ := X
  simp only at c0 r4 HRS0 HWF0 HD
  have HLN : Hid (RL.length = rs.length) := by show _ = _; rw [HD.out, List.length_map]
  rw [HLN.out, HD.out]
  clear hX HLN HD RL
  go_enter Try.func31, Try.ntmps31
  go_wp2_with fail
  refine CS.out.mono ?_
  rintro e w1 ⟨wa, wc, xa, xc, rfl, hx1, hb1⟩
  have y1 := ext_cell hb1 h1
  have y2 := ext_cell hb1 h2
  have c0 := ext_cell hb1 c0
  go_wp2_with fail
  refine (audNone_any _ l.length lc _ _).mono ?_
  rintro e w2 ⟨rfl, hwe⟩
  subst hwe
  have EW : Hid (Below w2.heap.size w2 (w2.alloc (.cells #[.int .i64 (serE s l), .int .i64 (noneE (N : Nat) l.length)] 25))) := grow_alloc (Below.refl _ _) _
  go_wp2_with fail
  refine (leave_zero [serE s l, noneE (N : Nat) l.length] _ 2 _ (by simp) HE.out (errs2 _ _ _ _ (by simp))).mono ?_
  rintro e w3 ⟨rfl, hwe⟩
  subst hwe
  have y1 := ext_cell EW.out y1
  have y2 := ext_cell EW.out y2
  have c0 := ext_cell EW.out c0
  have B1 : Hid (Below w.heap.size w (w2.alloc (.cells #[.int .i64 (serE s l), .int .i64 (noneE (N : Nat) l.length)] 25))) := grow_trans hb1 EW.out
  have HX1 : Hid (IsRes (w2.alloc (.cells #[.int .i64 (serE s l), .int .i64 (noneE (N : Nat) l.length)] 25)) xa (sRes s l)) := hx1.below EW.out
  have CL : Hid (∀ w', Below (w2.alloc (.cells #[.int .i64 (serE s l), .int .i64 (noneE (N : Nat) l.length)] 25)).heap.size (w2.alloc (.cells #[.int .i64 (serE s l), .int .i64 (noneE (N : Nat) l.length)] 25)) w' → Calls Try.prog 34 #[.slice (some ⟨b, off, none⟩) N lc, .slice xa (sRes s l).length xc] w' fun e w'' => e = .returned (.map (some w'.heap.size)) ∧ (∃ (m : Nat) (D : DataW Unit), w''.ownsMap Try.prog 3 (plainElem (H := Unit) Try.prog 3) w'.heap.size m D ∧ LastIs D f) ∧ Below w'.heap.size w' w'') := fun w' hb => CL0.out xa xc w' (HL.out.below (grow_trans B1.out hb)) (HX1.out.below hb)
  have HRS : Hid (IsInts (w2.alloc (.cells #[.int .i64 (serE s l), .int .i64 (noneE (N : Nat) l.length)] 25)) ra rs) := HRS0.out.below B1.out
  have HWF : Hid (∀ k, k < rs.length → (Lit.int .i64 (rs.getD k 0)).wf = true) := HWF0.out
  clear h0 h1 h2 hb1 CS CL0 hx1 HX1 EW HRS0 HWF0 HL
  go_upto_region 3 with fail
  generalize (w2.alloc (.cells #[.int .i64 (serE s l), .int .i64 (noneE (N : Nat) l.length)] 25)) = V at *
  have j1 : (N : Int) ≤ (lc : Int) := by omega
  have j2 : (N : Int) < (l.length : Int) := by omega
  have KS : Hid (∀ w', Below V.heap.size V w' → w'.cell? ⟨p1, 0, none⟩ = some (.slice (some ⟨b, off, none⟩) l.length lc) ∧ w'.cell? ⟨p2, 0, none⟩ = some (.int .i64 (N : Nat)) ∧ w'.cell? ⟨b, off + N * 3, none⟩ = some (.slice ra rs.length rc)) := fun w' hb => ⟨ext_cell hb y1, ext_cell hb y2, ext_cell hb c0⟩
  clear y1 y2 c0
  refine wp_region_held_drew (S := (fun w' => w'.cell? ⟨p1, 0, none⟩ = some (.slice (some ⟨b, off, none⟩) l.length lc) ∧ w'.cell? ⟨p2, 0, none⟩ = some (.int .i64 (N : Nat)) ∧ w'.cell? ⟨b, off + N * 3, none⟩ = some (.slice ra rs.length rc))) (by kernel_rfl) ?_ (fun hHeld => ?_)
  · exact KS.out _ (grow_drew (Below.refl _ _))
  refine wpAnyH_take (i := 0) (oi := { dst := some 20, op := .load 23 (.tmp 1), type := 23, pos := "audit.go:37", after := #[], guard := none }) (v := ?_) rfl (by kernel_rfl) (by kernel_rfl) (by kernel_rfl) (fun _ _ _ h => h) (Or.inl ⟨by rfl, ?_⟩) (by assumption) ?_
  rotate_left
  · intro w hSw
    go_simp
    first | done | with_reducible rfl
  try simp only [Act.put, List.setIfInBounds_toArray, List.set_cons_zero, List.set_cons_succ]
  refine wpAnyH_take (i := 1) (oi := { dst := some 21, op := .load 3 (.tmp 2), type := 3, pos := "audit.go:37", after := #[], guard := none }) (v := ?_) rfl (by kernel_rfl) (by kernel_rfl) (by kernel_rfl) (fun _ _ _ h => h) (Or.inl ⟨by rfl, ?_⟩) (by assumption) ?_
  rotate_left
  · intro w hSw
    go_simp
    first | done | with_reducible rfl
  try simp only [Act.put, List.setIfInBounds_toArray, List.set_cons_zero, List.set_cons_succ]
  refine wpAnyH_take (i := 2) (oi := { dst := some 22, op := .slice 23 (.tmp 20) none (some (.tmp 21)) none, type := 23, pos := "audit.go:37", after := #[{ on := 0, ground := .data }, { on := 1, ground := .data }], guard := none }) (v := ?_) rfl (by kernel_rfl) (by kernel_rfl) (by kernel_rfl) (fun _ _ _ h => h) (Or.inl ⟨by rfl, ?_⟩) (by assumption) ?_
  rotate_left
  · intro w hSw
    go_simp
    first | done | with_reducible rfl
  try simp only [Act.put, List.setIfInBounds_toArray, List.set_cons_zero, List.set_cons_succ]
  refine wpAnyH_take (i := 3) (oi := { dst := some 23, op := .move (.tmp 5), type := 24, pos := "audit.go:37", after := #[], guard := none }) (v := ?_) rfl (by kernel_rfl) (by kernel_rfl) (by kernel_rfl) (fun _ _ _ h => h) (Or.inl ⟨by rfl, ?_⟩) (by assumption) ?_
  rotate_left
  · intro w hSw
    go_simp
    first | done | with_reducible rfl
  try simp only [Act.put, List.setIfInBounds_toArray, List.set_cons_zero, List.set_cons_succ]
  refine wpAnyH_take (i := 5) (oi := { dst := some 25, op := .load 23 (.tmp 1), type := 23, pos := "audit.go:37", after := #[], guard := none }) (v := ?_) rfl (by kernel_rfl) (by kernel_rfl) (by kernel_rfl) (fun _ _ _ h => h) (Or.inl ⟨by rfl, ?_⟩) (by assumption) ?_
  rotate_left
  · intro w hSw
    go_simp
    first | done | with_reducible rfl
  try simp only [Act.put, List.setIfInBounds_toArray, List.set_cons_zero, List.set_cons_succ]
  refine wpAnyH_take (i := 6) (oi := { dst := some 26, op := .load 3 (.tmp 2), type := 3, pos := "audit.go:37", after := #[], guard := none }) (v := ?_) rfl (by kernel_rfl) (by kernel_rfl) (by kernel_rfl) (fun _ _ _ h => h) (Or.inl ⟨by rfl, ?_⟩) (by assumption) ?_
  rotate_left
  · intro w hSw
    go_simp
    first | done | with_reducible rfl
  try simp only [Act.put, List.setIfInBounds_toArray, List.set_cons_zero, List.set_cons_succ]
  refine wpAnyH_take (i := 7) (oi := { dst := some 27, op := .indexAddr 23 (.tmp 25) (.tmp 26), type := 0, pos := "audit.go:37", after := #[{ on := 5, ground := .data }, { on := 6, ground := .data }], guard := none }) (v := ?_) rfl (by kernel_rfl) (by kernel_rfl) (by kernel_rfl) (fun _ _ _ h => h) (Or.inl ⟨by rfl, ?_⟩) (by assumption) ?_
  rotate_left
  · intro w hSw
    go_simp
    first | done | with_reducible rfl
  try simp only [Act.put, List.setIfInBounds_toArray, List.set_cons_zero, List.set_cons_succ]
  refine wpAnyH_take (i := 8) (oi := { dst := some 28, op := .fieldAddr 38 (.tmp 27) 0, type := 0, pos := "audit.go:37", after := #[{ on := 7, ground := .data }], guard := none }) (v := ?_) rfl (by kernel_rfl) (by kernel_rfl) (by kernel_rfl) (fun _ _ _ h => h) (Or.inl ⟨by rfl, ?_⟩) (by assumption) ?_
  rotate_left
  · intro w hSw
    go_simp
    first | done | with_reducible rfl
  try simp only [Act.put, List.setIfInBounds_toArray, List.set_cons_zero, List.set_cons_succ]
  refine wpAnyH_take (i := 9) (oi := { dst := some 29, op := .load 22 (.tmp 28), type := 22, pos := "audit.go:37", after := #[{ on := 8, ground := .data }], guard := none }) (v := ?_) rfl (by kernel_rfl) (by kernel_rfl) (by kernel_rfl) (fun _ _ _ h => h) (Or.inl ⟨by rfl, ?_⟩) (by assumption) ?_
  rotate_left
  · intro w hSw
    go_simp
    first | done | with_reducible rfl
  try simp only [Act.put, List.setIfInBounds_toArray, List.set_cons_zero, List.set_cons_succ]
  refine wpAnyH_ready (rs := [4]) (by kernel_rfl) (by simp) ?_
  refine AllReadyH.cons (o := { dst := some 24, op := .call { callee := .value (.func 34), args := #[.tmp 22, .tmp 23], argTypes := #[23, 24] }, type := 70, pos := "audit.go:37", after := #[{ on := 2, ground := .data }, { on := 3, ground := .data }], guard := none }) rfl (fun K hK => ?_) (AllReadyH.nil)
  go_simp
  go_wp2_with (go_at_call 34; refine (CL.out _ (grow_drew (Below.refl _ _))).mono ?_; rintro e w3 ⟨rfl, ⟨mm, D, hown, hlast⟩, hb3⟩)
  have B3 : Hid (Below V.heap.size V w3) := grow_trans (grow_drew (Below.refl _ _)) hb3
  have hlt3 : V.heap.size < w3.heap.size := hown.lt
  clear hHeld
  refine hK.out _ _ (KS.out _ B3.out) (fun hHeld => ?_)
  clear hK K
  refine wpAnyH_ready (rs := [10]) (by kernel_rfl) (by simp) ?_
  refine AllReadyH.cons (o := { dst := some 30, op := .call { callee := .value (.func 33), args := #[.tmp 24, .tmp 29], argTypes := #[70, 22] }, type := 22, pos := "audit.go:37", after := #[{ on := 4, ground := .data }, { on := 9, ground := .data }, { on := 4, ground := .chain }], guard := none }) rfl (fun K hK => ?_) (AllReadyH.nil)
  go_simp
  go_wp2_with (go_at_call 33; refine (readFrom_any ra rc rs _ mm D f w3 hown hlt3 hlast (HRS.out.below B3.out) (by omega) HWF.out).mono ?_; rintro e w4 ⟨a, c, rfl, ha, hb4⟩)
  have B4 : Hid (Below V.heap.size V w4) := grow_trans B3.out hb4
  clear hHeld
  refine hK.out _ _ (KS.out _ B4.out) (fun hHeld => ?_)
  clear hK K
  refine wpAnyH_take (i := 11) (oi := { dst := some 3, op := .assign (.tmp 30), type := 22, pos := "audit.go:37", after := #[{ on := 10, ground := .data }, { on := 10, ground := .chain }, { on := 0, ground := .phase }, { on := 1, ground := .phase }, { on := 2, ground := .phase }, { on := 3, ground := .phase }, { on := 4, ground := .phase }, { on := 5, ground := .phase }, { on := 6, ground := .phase }, { on := 7, ground := .phase }, { on := 8, ground := .phase }, { on := 9, ground := .phase }, { on := 10, ground := .phase }], guard := none }) (v := ?_) rfl (by kernel_rfl) (by kernel_rfl) (by kernel_rfl) (fun _ _ _ h => h) (Or.inl ⟨by rfl, ?_⟩) (by assumption) ?_
  rotate_left
  · intro w hSw
    go_simp
    first | done | with_reducible rfl
  try simp only [Act.put, List.setIfInBounds_toArray, List.set_cons_zero, List.set_cons_succ]
  refine wpAnyH_done (by kernel_rfl) ?_ _
  have HA : Hid (IsAt w.heap.size w4.heap.size w4 a (rs.map f)) := ha.widen (grow_trans B1.out B3.out).size (Nat.le_refl _)
  clear hHeld KS ha hb4 hb3 hown hlast B3
  go_wp2
  go_ret
  exact ⟨a, c, rfl, HA.out, grow_trans B1.out B4.out⟩

set_option maxRecDepth 100000 in
set_option maxHeartbeats 2000000 in
theorem reads_any' (n : Int) (w : World) (hs : IsInts w sa s) (hl : IsTxs w la l) (hlc : l.length ≤ lc) :
    Calls Try.prog 8 #[.slice sa s.length sc, .slice la l.length lc, .int .i64 n] w fun e w' => ∃ a c, e = .returned (.tuple #[.slice a (rdV s l n).length c, .int .i64 (rdE s l n)]) ∧ IsInts w' a (rdV s l n) ∧ Below w.heap.size w w' := by
  have hmf : ∀ (fn : Fn) (first cap : Array Value) (w : World), (Instr.makeFunc fn first cap).run Try.prog w = .ok (.func fn first cap) w := fun _ _ _ _ => rfl
  obtain ⟨W, hWe⟩ : ∃ W : World, W = (((w.alloc (.cells #[.slice sa s.length sc] 22)).alloc (.cells #[.slice la l.length lc] 23)).alloc (.cells #[.int .i64 n] 3)) := ⟨_, rfl⟩
  have hU : Hid (Below w.heap.size w W) := by subst hWe; exact (grow_alloc (grow_alloc (grow_alloc (Below.refl _ _) _) _) _)
  have h0 : W.cell? ⟨w.heap.size, 0, none⟩ = some (.slice sa s.length sc) := by subst hWe; exact ext_cell (grow_alloc (grow_alloc (Below.refl _ _) _) _) (at_new _ _ 22 _ 0 _ (by first | rfl | simp) rfl)
  have h1 : W.cell? ⟨w.heap.size + 1, 0, none⟩ = some (.slice la l.length lc) := by subst hWe; exact ext_cell (grow_alloc (Below.refl _ _) _) (at_new _ _ 23 _ 0 _ (by first | rfl | simp) rfl)
  have h2 : W.cell? ⟨w.heap.size + 2, 0, none⟩ = some (.int .i64 n) := by subst hWe; exact ext_cell (Below.refl _ _) (at_new _ _ 3 _ 0 _ (by first | rfl | simp) rfl)
  have CC : Hid (Calls Try.prog 30 #[.func (.func 31) #[] #[.pointer (some ⟨w.heap.size, 0, none⟩), .pointer (some ⟨w.heap.size + 1, 0, none⟩), .pointer (some ⟨w.heap.size + 2, 0, none⟩)]] W fun e w' => ∃ a c, e = .returned (.tuple #[.slice a (rdV s l n).length c, .int .i64 (rdE s l n)]) ∧ IsInts w' a (rdV s l n) ∧ Below W.heap.size W w') := by
    have g : Below W.heap.size W (W.alloc (.cells #[.int .i64 0] 25)) := grow_alloc (Below.refl _ _) _
    have gg := grow_trans hU.out g
    have h0 := ext_cell g h0
    have h1 := ext_cell g h1
    have h2 := ext_cell g h2
    by_cases hE : rdE s l n = 0
    · obtain ⟨_, N, rfl, hN⟩ := rdE_zero hE
      have e1 : rdV s l (N : Nat) = rdL s l N := if_pos hE
      rw [e1, hE]
      refine (caughtIn_ret 31 _ (fun _ => rfl) (fun v w' => ∃ a c, v = .slice a (rdL s l N).length c ∧ IsAt (W.heap.size + 1) w'.heap.size w' a (rdL s l N)) W (fun v w' h => ?_) ((rd1_ok sa la sc lc s l N _ _ _ _ h0 h1 h2 (hs.below gg) (hl.below gg) hlc hN hE).mono ?_)).mono ?_
      · obtain ⟨a, c, rfl, h⟩ := h
        exact ⟨a, c, rfl, (h.set ⟨W.heap.size, 0, none⟩ _ (.inl (by simp))).widen (Nat.le_refl _) (by simp)⟩
      · rintro e w' ⟨a, c, rfl, h, hb⟩
        exact ⟨_, rfl, ⟨a, c, rfl, by simpa using h⟩, by simpa using hb⟩
      · rintro e w' ⟨v, rfl, ⟨a, c, rfl, h⟩, hb⟩
        exact ⟨a, c, rfl, h.ints (Nat.le_refl _), hb⟩
    · have e1 : rdV s l n = [] := if_neg hE
      rw [e1]
      refine (caughtIn_pan 31 _ (fun _ => rfl) (rdE s l n) W ((rd1_pan sa la sc lc s l n _ _ _ _ h0 h1 h2 (hs.below gg) (hl.below gg) hE).mono ?_)).mono ?_
      · rintro e w' ⟨rfl, hb⟩
        exact ⟨rfl, by simpa using hb⟩
      · rintro e w' ⟨rfl, hb⟩
        exact ⟨none, 0, rfl, fun i hi => absurd hi (by simp), hb⟩
  have HWe : Hid (W = _) := hWe
  clear h0 h1 h2 hs hl hWe
  go_enter Try.func8, Try.ntmps8
  go_upto_region 1 with fail
  rw [← HWe.out]
  clear HWe
  go_wp2_with fail
  refine CC.out.mono ?_
  rintro e w1 ⟨a, c, rfl, ha, hb⟩
  have B1 : Hid (Below w.heap.size w w1) := grow_trans hU.out hb
  have HA : Hid (IsInts w1 a (rdV s l n)) := ha
  clear hb CC ha
  go_wp2
  go_ret2
  exact ⟨a, c, rfl, HA.out, B1.out⟩
end Go.Proofs.Ytcgpkonfneofdaa
