/-
  store.apply: one transaction at a store that is the program's own: what it answers, and what lies there then.
  Conditions: those that each theorem states.
-/
import Derived.Test.YtcgpkonfneofdaaStoreC
import Derived.WalkKit
import Derived.WalkSpells
import Derived.WalkLawsBesides
import Derived.Defers
import Derived.Recover
import Derived.ProofKit
import Derived.Deep.RegionHeld
import Derived.Deep.RegionHeld3
import Derived.Deep.DeepCutAuto
import Derived.BigQuiet
import Derived.Lib.BufferOwn
import Derived.Maps.AppendAt
import Derived.Maps.Range
import Derived.Deep.AppendLies
namespace Go.Proofs.Ytcgpkonfneofdaa
open Go.RowKit

theorem ints_of_row {w : World} {B g cap : Nat} {s : List Int} (h : w.ownsRow B 3 1 (.slice (some ⟨g, 0, none⟩) s.length cap) s.length (s.map (Value.int .i64))) : IsInts w (some ⟨g, 0, none⟩) s := by
  obtain ⟨a, c, he, hi⟩ := ints_of_owns h
  injection he with h1 h2 h3
  subst h1
  exact hi

/-- What lies in a new result behind a call. -/
theorem fresh_res {V X wa : World} (h : Below X.heap.size X wa) (hX : X.heap = (V.alloc (.cells #[.bool false, .slice none 0 0] 40)).heap) : wa.cell? ⟨V.heap.size, 0, none⟩ = some (.bool false) ∧ wa.cell? ⟨V.heap.size, 1, none⟩ = some (.slice none 0 0) ∧ ∀ j, wa.frozen? ⟨V.heap.size, j, none⟩ = false := by
  have hb : ∀ j, (⟨V.heap.size, j, none⟩ : Addr).block < X.heap.size := fun j => by rw [hX]; simp
  have hc : ∀ p, X.cell? p = (V.alloc (.cells #[.bool false, .slice none 0 0] 40)).cell? p := fun p => World.cell?_of_block (by rw [hX])
  have hf : ∀ p, X.frozen? p = (V.alloc (.cells #[.bool false, .slice none 0 0] 40)).frozen? p := fun p => World.frozen?_of_block (by rw [hX])
  exact ⟨((h.cell (hb 0)).trans (hc _)).trans (by simp), ((h.cell (hb 1)).trans (hc _)).trans (by simp), fun j => ((h.frozen (hb j)).trans (hf _)).trans (by simp)⟩
theorem fresh_on {X wa wb : World} {R : Nat} {u v : Value} (h : Below X.heap.size X wb) (r0 : wa.cell? ⟨R, 0, none⟩ = some u) (r1 : wa.cell? ⟨R, 1, none⟩ = some v) (rf : ∀ j, wa.frozen? ⟨R, j, none⟩ = false) (hX : X.heap = wa.heap) : wb.cell? ⟨R, 0, none⟩ = some u ∧ wb.cell? ⟨R, 1, none⟩ = some v ∧ ∀ j, wb.frozen? ⟨R, j, none⟩ = false := by
  have hb : ∀ j, (⟨R, j, none⟩ : Addr).block < X.heap.size := fun j => by rw [hX]; exact World.block_lt_of_cell? wa ⟨R, 0, none⟩ r0
  have hc : ∀ p, X.cell? p = wa.cell? p := fun p => World.cell?_of_block (by rw [hX])
  have hf : ∀ p, X.frozen? p = wa.frozen? p := fun p => World.frozen?_of_block (by rw [hX])
  exact ⟨((h.cell (hb 0)).trans (hc _)).trans r0, ((h.cell (hb 1)).trans (hc _)).trans r1, fun j => ((h.frozen (hb j)).trans (hf _)).trans (rf j)⟩
theorem size_le {X wa : World} (h : Below X.heap.size X wa) : X.heap.size ≤ wa.heap.size := h.size

theorem row_cell {w : World} {B g cap n : Nat} {P : List Int} (h : w.ownsRow B 3 1 (.slice (some ⟨g, 0, none⟩) n cap) n (P.map (Value.int .i64))) (hP : P.length = n) (m : Nat) (hm : m < n) : w.cell? ⟨g, m, none⟩ = some (.int .i64 (P.getD m 0)) := by
  rw [h.cellAt m (by omega)]
  simp [List.getD, hP, hm]
theorem putAll_cut : ∀ (ks s vs : List Int), vs.length ≤ ks.length → putAll s (ks.take vs.length) vs = putAll s ks vs
  | [], s, vs, _ => by simp
  | k :: ks, s, [], _ => by simp [putAll]
  | k :: ks, s, v :: vs, h => by
    simp only [List.length_cons, List.take_succ_cons, putAll]
    exact putAll_cut ks _ vs (by simpa using h)
theorem IsAt.grown {lo hi g : Nat} {w w' : World} {a : Option Addr} {zs : List Int} (h : IsAt lo hi w a zs) (hg : w.grownBy w' (some g)) (hlo : g < lo) (_hhi : hi ≤ w.heap.size) : IsAt lo hi w' a zs := fun i hi' => by
  obtain ⟨b, off, ha, h1, h2, hc⟩ := h i hi'
  exact ⟨b, off, ha, h1, h2, hg.cell hc (by simp; omega)⟩
theorem grownBy_one (w : World) (b i : Nat) (v : Value) : w.grownBy (w.setCell ⟨b, i, none⟩ v) (some b) := ⟨rfl, rfl, rfl, by simp, fun j _ hj => Below.heap_setCell w ⟨b, i, none⟩ v j (fun h => hj (by rw [h]))⟩
theorem grownBy_of_below {w w' : World} (h : Below w.heap.size w w') (row : Option Nat) : w.grownBy w' row := ⟨h.os, h.tape, h.output, h.size, fun i hi _ => h.block i hi⟩

variable (ra ga sa : Option Addr) (rc gc sc : Nat) (rs : List Int) (gs : List Gd) (ss : List St)

set_option maxRecDepth 100000 in
set_option maxHeartbeats 4000000 in
theorem apply_any (s : List Int) (g cap B : Nat) (w0 w : World) (ht : IsTx w0 ra ga sa rs gs ss) (h0 : Below w0.heap.size w0 w) (hB : w0.heap.size ≤ B) (hs : w.ownsRow B 3 1 (.slice (some ⟨g, 0, none⟩) s.length cap) s.length (s.map (Value.int .i64))) (h8 : s.length = 8) (hE : chkTx rs gs ss = 0) :
    Calls Try.prog 75 #[.slice (some ⟨g, 0, none⟩) s.length cap, .agg #[.slice ra rs.length rc, .slice ga gs.length gc, .slice sa ss.length sc]] w fun e w' => ∃ va vc, e = .returned (.agg #[.bool (allG (rdOf s rs) gs), .slice va (rdOf s rs).length vc]) ∧ IsAt w.heap.size w'.heap.size w' va (rdOf s rs) ∧ w'.ownsRow B 3 1 (.slice (some ⟨g, 0, none⟩) s.length cap) s.length ((putAll s (keysOf ss) (madeOf (rdOf s rs) gs ss)).map (Value.int .i64)) ∧ w.grownBy w' (some g) := by
  obtain ⟨hBg, hgw⟩ := hs.lt g rfl
  obtain ⟨hm, _, hgg, hss⟩ := chk_parts hE
  obtain ⟨h4, _, h3, _⟩ := many_small _ _ _ hm
  obtain ⟨hrr, hrk⟩ := chk_ranges hE
  have hlen : (rdOf s rs).length = rs.length := rdOf_len s rs
  have hRE : runE rs gs ss (rdOf s rs) = 0 := by
    show firstNZ _ = _
    rw [firstNZ, if_pos hE, firstNZ]
    have : countE rs (rdOf s rs) = 0 := if_pos hlen
    rw [this]; rfl
  have CV : Hid (∀ w', Below w.heap.size w w' → Calls Try.prog 95 #[.slice (some ⟨g, 0, none⟩) s.length cap, .slice ra rs.length rc] w' (fun e w'' => ∃ a zc, e = .returned (.slice a (rdOf s rs).length zc) ∧ IsAt w'.heap.size w''.heap.size w'' a (rdOf s rs) ∧ (a = none → zc = 0) ∧ Below w'.heap.size w' w'')) := fun w' hb =>
    valuesOf_any s rs (some ⟨g, 0, none⟩) ra cap rc w' ((ints_of_row hs).below hb) ((ht.below h0).r.below hb) h8 h4 hrr
  have CR : Hid (∀ w' za zc, IsInts w' za (rdOf s rs) → (za = none → zc = 0) → Below w.heap.size w w' → Calls Try.prog 15 #[.agg #[.slice ra rs.length rc, .slice ga gs.length gc, .slice sa ss.length sc], .slice za (rdOf s rs).length zc] w' (fun e w'' => ∃ va vc ma mc, e = .returned (.tuple #[.agg #[.bool (allG (rdOf s rs) gs), .slice va (rdOf s rs).length vc], .slice ma (madeOf (rdOf s rs) gs ss).length mc, .int .i64 0]) ∧ IsAt w'.heap.size w''.heap.size w'' va (rdOf s rs) ∧ IsAt w'.heap.size w''.heap.size w'' ma (madeOf (rdOf s rs) gs ss) ∧ Below w'.heap.size w' w'')) := fun w' za zc hz hn hb => by
    have h := txnRun_any ra ga sa rc gc sc rs gs ss za zc (rdOf s rs) w' ((ht.below h0).below hb) hz hn
    have e1 : runD rs gs ss (rdOf s rs) = allG (rdOf s rs) gs := if_pos hRE
    have e2 : runV rs gs ss (rdOf s rs) = rdOf s rs := if_pos hRE
    have e3 : runM rs gs ss (rdOf s rs) = madeOf (rdOf s rs) gs ss := if_pos hRE
    rw [e1, e2, e3, hRE] at h
    exact h
  have hML : (madeOf (rdOf s rs) gs ss).length ≤ ss.length := by unfold madeOf; split <;> simp [allS]
  generalize hZ : rdOf s rs = Z at *
  generalize hM : madeOf Z gs ss = M at *
  generalize hD : allG Z gs = D at *
  clear hZ hM hD hRE hlen hgg hss hm hrr hE
  have HS := hs
  have hML' : Hid (M.length ≤ (keysOf ss).length) := by show _ ≤ _; rw [keys_len]; exact hML
  have HB0 : Hid (Below w0.heap.size w0 w) := h0
  have hSS : Hid (IsSs w0 sa ss) := ht.s
  have H8 : Hid (s.length = 8) := h8
  have HRK : Hid (rangeE (keysOf ss) = 0) := hrk
  clear ht h0 h8 hrk hs
  go_enter Try.func75, Try.ntmps75
  go_upto_region 1 with fail
  have VB0 : Below w.heap.size w ((w.alloc (.cells #[.slice ra rs.length rc, .slice ga gs.length gc, .slice sa ss.length sc] 38)).alloc (.cells #[.bool false, .slice none 0 0] 40)) := grow_alloc (grow_alloc (Below.refl _ _) _) _
  have y0 : ((w.alloc (.cells #[.slice ra rs.length rc, .slice ga gs.length gc, .slice sa ss.length sc] 38)).alloc (.cells #[.bool false, .slice none 0 0] 40)).cell? ⟨w.heap.size, 0, none⟩ = some (.slice ra rs.length rc) := by rw [World.cell?_alloc_lt _ _ _ (by simp)]; simp
  have y1 : ((w.alloc (.cells #[.slice ra rs.length rc, .slice ga gs.length gc, .slice sa ss.length sc] 38)).alloc (.cells #[.bool false, .slice none 0 0] 40)).cell? ⟨w.heap.size, 1, none⟩ = some (.slice ga gs.length gc) := by rw [World.cell?_alloc_lt _ _ _ (by simp)]; simp
  have y2 : ((w.alloc (.cells #[.slice ra rs.length rc, .slice ga gs.length gc, .slice sa ss.length sc] 38)).alloc (.cells #[.bool false, .slice none 0 0] 40)).cell? ⟨w.heap.size, 2, none⟩ = some (.slice sa ss.length sc) := by rw [World.cell?_alloc_lt _ _ _ (by simp)]; simp
  have y3 : ((w.alloc (.cells #[.slice ra rs.length rc, .slice ga gs.length gc, .slice sa ss.length sc] 38)).alloc (.cells #[.bool false, .slice none 0 0] 40)).cell? ⟨w.heap.size + 1, 0, none⟩ = some (.bool false) := by simp
  have y4 : ((w.alloc (.cells #[.slice ra rs.length rc, .slice ga gs.length gc, .slice sa ss.length sc] 38)).alloc (.cells #[.bool false, .slice none 0 0] 40)).cell? ⟨w.heap.size + 1, 1, none⟩ = some (.slice none 0 0) := by simp
  have yf : ∀ j, ((w.alloc (.cells #[.slice ra rs.length rc, .slice ga gs.length gc, .slice sa ss.length sc] 38)).alloc (.cells #[.bool false, .slice none 0 0] 40)).frozen? ⟨w.heap.size + 1, j, none⟩ = false := fun j => by simp
  have VB : Hid (Below w.heap.size w ((w.alloc (.cells #[.slice ra rs.length rc, .slice ga gs.length gc, .slice sa ss.length sc] 38)).alloc (.cells #[.bool false, .slice none 0 0] 40))) := VB0
  have hV2 : w.heap.size + 2 ≤ ((w.alloc (.cells #[.slice ra rs.length rc, .slice ga gs.length gc, .slice sa ss.length sc] 38)).alloc (.cells #[.bool false, .slice none 0 0] 40)).heap.size := by simp
  clear VB0
  generalize ((w.alloc (.cells #[.slice ra rs.length rc, .slice ga gs.length gc, .slice sa ss.length sc] 38)).alloc (.cells #[.bool false, .slice none 0 0] 40)) = V at *
  have KS : ∀ w', Below V.heap.size V w' → w'.cell? ⟨w.heap.size, 0, none⟩ = some (.slice ra rs.length rc) ∧ w'.cell? ⟨w.heap.size, 1, none⟩ = some (.slice ga gs.length gc) ∧ w'.cell? ⟨w.heap.size, 2, none⟩ = some (.slice sa ss.length sc) ∧ Hid (Below V.heap.size V w') := fun w' h => ⟨ext_cell h y0, ext_cell h y1, ext_cell h y2, h⟩
  have HKS : Hid (∀ w', Below V.heap.size V w' → w'.cell? ⟨w.heap.size, 0, none⟩ = some (.slice ra rs.length rc) ∧ w'.cell? ⟨w.heap.size, 1, none⟩ = some (.slice ga gs.length gc) ∧ w'.cell? ⟨w.heap.size, 2, none⟩ = some (.slice sa ss.length sc) ∧ Hid (Below V.heap.size V w')) := KS
  have HS' : Hid (w.ownsRow B 3 1 (.slice (some ⟨g, 0, none⟩) s.length cap) s.length (s.map (Value.int .i64))) := HS
  clear KS HS
  go_cut [5, 6, 7] (fun r m e wx => ∃ R va vc ma mc, r = .pointer (some ⟨R, 0, none⟩) ∧ m = .slice ma M.length mc ∧ e = .int .i64 0 ∧ V.heap.size ≤ R ∧ wx.cell? ⟨R, 0, none⟩ = some (.bool D) ∧ wx.cell? ⟨R, 1, none⟩ = some (.slice va Z.length vc) ∧ IsAt V.heap.size wx.heap.size wx va Z ∧ IsAt V.heap.size wx.heap.size wx ma M ∧ Below V.heap.size V wx)
  case first =>
    clear y0 y1 y2 y3 y4 yf
    go_region_held3 (fun w' => w'.cell? ⟨w.heap.size, 0, none⟩ = some (.slice ra rs.length rc) ∧ w'.cell? ⟨w.heap.size, 1, none⟩ = some (.slice ga gs.length gc) ∧ w'.cell? ⟨w.heap.size, 2, none⟩ = some (.slice sa ss.length sc) ∧ Hid (Below V.heap.size V w')) ((refine HKS.out _ ?_; go_split_ands; repeat (first | assumption | exact Below.refl _ _ | exact Hid.out (by assumption) | refine grow_drew ?_ | refine grow_alloc ?_ _ | refine grow_set ?_ (by first | exact Nat.le_refl _ | omega | (simp; done) | (simp at *; omega)) _ | refine grow_trans ?_ (by assumption))))
      (first
        | (go_at_call 95; refine (CV.out _ ?_).mono ?_; (refine grow_trans VB.out ?_; go_split_ands; exact Hid.out (by assumption)); rintro e wa ⟨za, zc, rfl, hza, hzn, hba⟩; have hwa := size_le hba; (first | (obtain ⟨r0, r1, rf⟩ := fresh_res (V := V) hba rfl) | skip))
        | (go_at_call 15; refine (CR.out _ za zc ?_ hzn ?_).mono ?_; (repeat (first | exact hza.ints (Nat.le_refl _) | refine IsInts.below ?_ (grow_drew (Below.refl _ _)) | refine IsInts.below ?_ (grow_alloc (Below.refl _ _) _))); (refine grow_trans VB.out ?_; go_split_ands; exact Hid.out (by assumption)); rintro e wb ⟨va, vc, ma, mc, rfl, hva, hma, hbb⟩; have hwb := size_le hbb; (first | (obtain ⟨t0, t1, tf⟩ := fresh_res (V := wa) hbb rfl) | (revert r0; intro r0; obtain ⟨t0, t1, tf⟩ := fresh_on hbb r0 r1 rf rfl) | skip)))
    all_goals (go_wp2_with fail; go_meet)
    all_goals (
      have e1 : V.heap.size ≤ wa.heap.size := by first | exact hwa | (have h := hwa; simp at h; omega)
      have e2 : wa.heap.size ≤ wb.heap.size := by first | exact hwb | (have h := hwb; simp at h; omega)
      go_split_ands
      first
        | exact ⟨_, va, vc, ma, mc, rfl, rfl, rfl, by omega, by simp, by simp, (hva.below (grow_alloc (Below.refl _ _) _)).widen (by first | exact e1 | (simp; omega)) (by simp), (hma.below (grow_alloc (Below.refl _ _) _)).widen (by first | exact e1 | (simp; omega)) (by simp), Hid.out (by assumption)⟩
        | exact ⟨_, va, vc, ma, mc, rfl, rfl, rfl, by first | exact Nat.le_refl _ | exact e1, by simp [go_sem, t0], by simp [go_sem, t1], ((hva.set ⟨_, 0, none⟩ _ (.inl (by first | (simp; done) | (have h := hwa; simp at h ⊢; omega)))).set ⟨_, 1, none⟩ _ (.inl (by first | (simp; done) | (have h := hwa; simp at h ⊢; omega)))).widen (by first | exact e1 | (simp; omega)) (by simp), ((hma.set ⟨_, 0, none⟩ _ (.inl (by first | (simp; done) | (have h := hwa; simp at h ⊢; omega)))).set ⟨_, 1, none⟩ _ (.inl (by first | (simp; done) | (have h := hwa; simp at h ⊢; omega)))).widen (by first | exact e1 | (simp; omega)) (by simp), Hid.out (by assumption)⟩)
  case rest =>
    obtain ⟨R, va, vc, ma, mc, rfl, rfl, rfl, hR, c0, c1, hva, hma, hbc⟩ := hcut
    go_wp2_with fail
    refine (leave_zero [0] _ 1 _ (by simp) rfl (errs1 _ _ _ (by simp))).mono ?_
    rintro e W2 ⟨rfl, rfl⟩
    have U : Below wc.heap.size wc (wc.alloc (.cells #[.int .i64 0] 25)) := grow_alloc (Below.refl _ _) _
    have UV : Below V.heap.size V (wc.alloc (.cells #[.int .i64 0] 25)) := grow_trans hbc U
    have z2 := ext_cell UV y2
    have z3 := ext_cell UV y3
    have z4 := ext_cell UV y4
    have zf : ∀ j, (wc.alloc (.cells #[.int .i64 0] 25)).frozen? ⟨w.heap.size + 1, j, none⟩ = false := fun j => (UV.frozen (p := ⟨w.heap.size + 1, j, none⟩) (by show w.heap.size + 1 < _; omega)).trans (yf j)
    have d0 := ext_cell U c0
    have d1 := ext_cell U c1
    have hva2 : Hid (IsAt V.heap.size wc.heap.size (wc.alloc (.cells #[.int .i64 0] 25)) va Z) := hva.below U
    have hma2 : Hid (IsAt V.heap.size wc.heap.size (wc.alloc (.cells #[.int .i64 0] 25)) ma M) := hma.below U
    have hW : Hid (Below w.heap.size w (wc.alloc (.cells #[.int .i64 0] 25))) := grow_trans VB.out UV
    have hrow : Hid ((wc.alloc (.cells #[.int .i64 0] 25)).ownsRow B 3 1 (.slice (some ⟨g, 0, none⟩) s.length cap) s.length (s.map (Value.int .i64))) := owns_below HS'.out hW.out
    have hwcs : Hid (wc.heap.size ≤ (wc.alloc (.cells #[.int .i64 0] 25)).heap.size) := U.size
    have hRlt : R < (wc.alloc (.cells #[.int .i64 0] 25)).heap.size := World.block_lt_of_cell? _ _ d0
    have hVs : V.heap.size ≤ (wc.alloc (.cells #[.int .i64 0] 25)).heap.size := UV.size
    clear U UV y0 y1 y2 y3 y4 yf c0 c1 hva hma hbc HS' HKS CV CR
    generalize (wc.alloc (.cells #[.int .i64 0] 25)) = W at *
    have far : ∀ {wr : World}, W.grownBy wr (some g) → ∀ (b : Nat) j v, b ≠ g → W.cell? ⟨b, j, none⟩ = some v → wr.cell? ⟨b, j, none⟩ = some v := fun hg b j v hne h => hg.cell h (by simpa using hne)
    go_wp2
    go_loopw [8, 9, 25] (fun _ _ i wr => ∃ k : Nat, k ≤ M.length ∧ i = .int .i64 k ∧ wr.ownsRow B 3 1 (.slice (some ⟨g, 0, none⟩) s.length cap) s.length ((putAll s ((keysOf ss).take k) (M.take k)).map (Value.int .i64)) ∧ W.grownBy wr (some g)) (fun _ _ i _ => M.length - (intOf i).toNat)
    case atStart => exact ⟨0, Nat.zero_le _, rfl, by simpa [putAll] using hrow.out, World.grownBy.refl _ _⟩
    case round =>
      obtain ⟨k, hk, rfl, hown, hgr⟩ := hrel
      by_cases hlt : k < M.length
      · obtain ⟨b, off, rfl, hb1, hb2, m0⟩ := hma2.out k hlt
        have hks : k < ss.length := by omega
        obtain ⟨b', off', rfl, hb', k0, _⟩ := hSS.out k hks
        have hkl : k < (keysOf ss).length := by rw [keys_len]; exact hks
        obtain ⟨hz, hz'⟩ := rangeE_get (keysOf ss) HRK.out k hkl
        have HT : Hid (putAll s ((keysOf ss).take (k + 1)) (M.take (k + 1)) = (putAll s ((keysOf ss).take k) (M.take k)).set ((keysOf ss).getD k 0).toNat (M.getD k 0)) := putAll_take (keysOf ss) s M k hkl hlt
        have k1 : W.cell? ⟨b', off' + k * 6, none⟩ = some (.int .i64 ((keysOf ss).getD k 0)) := by
          rw [keys_get ss k hks]
          exact (ext_cell (grow_trans HB0.out hW.out) k0)
        generalize (keysOf ss).getD k 0 = z at *
        obtain ⟨m, rfl⟩ := Int.eq_ofNat_of_zero_le hz
        have hms : m < s.length := by have := H8.out; omega
        have q0 := far hgr _ _ _ (by omega) m0
        have q1 := far hgr _ _ _ (by omega) k1
        have q2 := far hgr _ _ _ (by omega) z2
        have hPl : (putAll s ((keysOf ss).take k) (M.take k)).length = s.length := putAll_len _ _ _
        have q3 := row_cell hown hPl m hms
        have q4 : wr.frozen? ⟨g, m, none⟩ = false := hown.frozenAt m
        have R1 : ∀ u : Int, (wr.setCell ⟨g, m, none⟩ (.int .i64 u)).ownsRow B 3 1 (.slice (some ⟨g, 0, none⟩) s.length cap) s.length (((putAll s ((keysOf ss).take k) (M.take k)).set m u).map (Value.int .i64)) := fun u => by
          have h := hown.stored m (.int .i64 u)
          rw [List.map_set]
          exact h.1
        have R2 : ∀ u : Value, W.grownBy (wr.setCell ⟨g, m, none⟩ u) (some g) := fun u => hgr.trans (grownBy_one wr g m u)
        have R3 : Hid ((wr.setCell ⟨g, m, none⟩ (.int .i64 (M.getD k 0))).ownsRow B 3 1 (.slice (some ⟨g, 0, none⟩) s.length cap) s.length ((putAll s ((keysOf ss).take (k + 1)) (M.take (k + 1))).map (Value.int .i64))) := by
          rw [HT.out]; exact R1 _
        have R4 : Hid (W.grownBy (wr.setCell ⟨g, m, none⟩ (.int .i64 (M.getD k 0))) (some g)) := R2 _
        generalize (putAll s ((keysOf ss).take k) (M.take k)).getD m 0 = y at *
        generalize M.getD k 0 = y' at *
        clear R1 R2 hown hgr hPl m0 k0 k1 z2 z3 z4 zf d0 d1 hSS hz hz'
        go_wp2
        go_roundw
        case rel => exact ⟨k + 1, by omega, by go_num, R3.out, R4.out⟩
        case measure => simp [intOf]; omega
      · have hkk : k = M.length := by omega
        have hfin : Hid (wr.ownsRow B 3 1 (.slice (some ⟨g, 0, none⟩) s.length cap) s.length ((putAll s (keysOf ss) M).map (Value.int .i64))) := by
          have h := hown
          rw [hkk, List.take_of_length_le (Nat.le_refl M.length), putAll_cut _ _ _ hML'.out] at h
          exact h
        have q0 := far hgr _ _ _ (by omega) d0
        have q1 := far hgr _ _ _ (by omega) d1
        have q3 := far hgr _ _ _ (by omega) z3
        have q4 := far hgr _ _ _ (by omega) z4
        have qf : ∀ j, wr.frozen? ⟨w.heap.size + 1, j, none⟩ = false := fun j => (hgr.frozen_far ⟨w.heap.size + 1, j, none⟩ (by show w.heap.size + 1 < _; omega) (by simp; omega)).trans (zf j)
        have hvr : Hid (IsAt V.heap.size wr.heap.size wr va Z) := (hva2.out.grown hgr (by omega) hwcs.out).widen (Nat.le_refl _) (Nat.le_trans hwcs.out hgr.size)
        have hG : Hid (w.grownBy wr (some g)) := (grownBy_of_below hW.out _).trans hgr
        clear hown hgr z2 z3 z4 zf d0 d1 far hva2 hma2 hSS hrow
        go_wp2
        have r0 : ((wr.setCell ⟨w.heap.size + 1, 0, none⟩ (.bool D)).setCell ⟨w.heap.size + 1, 1, none⟩ (.slice va Z.length vc)).cell? ⟨w.heap.size + 1, 0, none⟩ = some (.bool D) := by simp [go_sem, q3]
        have r1 : ((wr.setCell ⟨w.heap.size + 1, 0, none⟩ (.bool D)).setCell ⟨w.heap.size + 1, 1, none⟩ (.slice va Z.length vc)).cell? ⟨w.heap.size + 1, 1, none⟩ = some (.slice va Z.length vc) := by simp [go_sem, q4]
        refine bodyPost_ret (v := .agg #[.bool D, .slice va Z.length vc]) (by simp [results, Try.results75, go_sem, r0, r1]) rfl ⟨va, vc, rfl, ?_, ?_, ?_⟩
        · exact ((hvr.out.set ⟨w.heap.size + 1, 0, none⟩ _ (.inl (by show w.heap.size + 1 < _; omega))).set ⟨w.heap.size + 1, 1, none⟩ _ (.inl (by show w.heap.size + 1 < _; omega))).widen (by omega) (by simp)
        · exact (hfin.out.kept (grownBy_one wr (w.heap.size + 1) 0 _) (.inr (by simp [Value.ownBlock]; omega))).kept (grownBy_one _ (w.heap.size + 1) 1 _) (.inr (by simp [Value.ownBlock]; omega))
        · exact (hG.out.andThen (grownBy_one wr (w.heap.size + 1) 0 _) (fun j hj => by injection hj with hj; subst hj; left; omega)).andThen (grownBy_one _ (w.heap.size + 1) 1 _) (fun j hj => by injection hj with hj; subst hj; left; omega)
end Go.Proofs.Ytcgpkonfneofdaa
