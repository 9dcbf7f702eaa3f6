/-
  The document's own apply: one transaction at a store.
  Conditions: what it is handed can be read, and has no error.
-/
import Derived.Test.YtcgpkonfneofdaaStoreH
import Derived.WalkKit
import Derived.WalkSpells
import Derived.WalkLawsBesides
import Derived.Defers
import Derived.Recover
import Derived.ProofKit
import Derived.Deep.RegionHeld
import Derived.Deep.RegionHeld3
import Derived.Deep.DeepCutAuto
import Derived.BigQuiet
namespace Go.Proofs.Ytcgpkonfneofdaa
open Go.RowKit

theorem grownBy_drew2 {w w' : World} {row : Option Nat} (h : w.grownBy w' row) : w.grownBy w'.drew row := ⟨h.os, h.tape, h.output, h.size, h.block⟩

variable (sa : Option Addr) (sc : Nat) (s : List Int) (ra ga ta : Option Addr) (rc gc tc : Nat) (rs : List Int) (gs : List Gd) (ss : List St)

theorem news_ints {w : World} {s : List Int} {ad : Addr} (hs : IsInts w (some ad) s) : ∀ j u, (s.map (Value.int .i64))[j]? = some u → w.cell? (ad.add j) = some u := by
  intro j u hj
  have hlt : j < s.length := by
    have := (List.getElem?_eq_some_iff.1 hj).1
    simpa using this
  obtain ⟨b, off, ha, hb, hc⟩ := hs j hlt
  injection ha with ha
  subst ha
  rw [add_none, hc]
  simp [hlt] at hj
  simp [List.getD, hlt, hj]

set_option maxRecDepth 100000 in
set_option maxHeartbeats 4000000 in
theorem applyR_any (w : World) (hs : IsInts w sa s) (h8 : s.length = 8) (ht : IsTx w ra ga ta rs gs ss) (hE : chkTx rs gs ss = 0) :
    Calls Try.prog 70 #[.slice sa s.length sc, .agg #[.slice ra rs.length rc, .slice ga gs.length gc, .slice ta ss.length tc]] w fun e w' => ∃ a cap va vc, e = .returned (.tuple #[.slice a s.length cap, .agg #[.bool (allG (rdOf s rs) gs), .slice va (rdOf s rs).length vc]]) ∧ IsAt w.heap.size w'.heap.size w' a (putAll s (keysOf ss) (madeOf (rdOf s rs) gs ss)) ∧ (a = none → cap = 0) ∧ IsAt w.heap.size w'.heap.size w' va (rdOf s rs) ∧ Below w.heap.size w w' := by
  obtain ⟨i0, hi, hz0, hz1, hz2⟩ := info_parts Try.info3
  obtain ⟨hm, _, hgg, hss⟩ := chk_parts hE
  obtain ⟨h4, hg2, h3, _⟩ := many_small _ _ _ hm
  obtain ⟨hrr, hrk⟩ := chk_ranges hE
  obtain ⟨ad, rfl⟩ : ∃ ad, sa = some ad := by
    obtain ⟨b, off, h, _⟩ := hs 0 (by omega)
    exact ⟨_, h⟩
  have hML : (madeOf (rdOf s rs) gs ss).length ≤ ss.length := by unfold madeOf; split <;> simp [allS]
  have CR0 : Hid (∀ za zc w', IsInts w' za (rdOf s rs) → (za = none → zc = 0) → Below w.heap.size w w' → Calls Try.prog 94 #[.agg #[.slice ra rs.length rc, .slice ga gs.length gc, .slice ta ss.length tc], .slice za (rdOf s rs).length zc] w' fun e w'' => ∃ va vc ma mc, e = .returned (.tuple #[.agg #[.bool (allG (rdOf s rs) gs), .slice va (rdOf s rs).length vc], .slice ma (madeOf (rdOf s rs) gs ss).length mc]) ∧ IsAt w'.heap.size w''.heap.size w'' va (rdOf s rs) ∧ IsAt w'.heap.size w''.heap.size w'' ma (madeOf (rdOf s rs) gs ss) ∧ Below w'.heap.size w' w'') := fun za zc w' hz hn hb =>
    runOf_any ra ga ta rc gc tc rs gs ss za zc (rdOf s rs) w' (ht.below hb) hz hn (by rw [rdOf_len]; exact h4) (rdOf_len s rs) hgg hss h3 hg2
  have hkl : Hid ((rdOf s rs).length = rs.length) := rdOf_len s rs
  have TK : Hid (∀ k, k < rs.length → (rdOf s rs).take (k + 1) = (rdOf s rs).take k ++ [getAt s (rs.getD k 0)]) := fun k h => take_rd s rs k h
  generalize rdOf s rs = Z at *
  generalize madeOf Z gs ss = M at *
  generalize allG Z gs = D at *
  have H8 : Hid (s.length = 8) := h8
  have HS : Hid (IsInts w (some ad) s) := hs
  have HT : Hid (IsTx w ra ga ta rs gs ss) := ht
  have HR : Hid (rangeE rs = 0) := hrr
  have HRK : Hid (rangeE (keysOf ss) = 0) := hrk
  have HG : Hid (firstNZ (gs.map (gErr rs.length)) = 0) := hgg
  have HSS : Hid (firstNZ (ss.map (sErr rs.length)) = 0) := hss
  clear hs h8 ht hE hm hrr hrk hgg hss
  go_enter Try.func70, Try.ntmps70
  have y0 : ((w.alloc (.cells #[.slice ra rs.length rc, .slice ga gs.length gc, .slice ta ss.length tc] 38)).alloc (.cells #[.bool false, .slice none 0 0] 40)).cell? ⟨w.heap.size, 0, none⟩ = some (.slice ra rs.length rc) := by rw [World.cell?_alloc_lt _ _ _ (by simp)]; simp
  have y1 : ((w.alloc (.cells #[.slice ra rs.length rc, .slice ga gs.length gc, .slice ta ss.length tc] 38)).alloc (.cells #[.bool false, .slice none 0 0] 40)).cell? ⟨w.heap.size, 1, none⟩ = some (.slice ga gs.length gc) := by rw [World.cell?_alloc_lt _ _ _ (by simp)]; simp
  have y2 : ((w.alloc (.cells #[.slice ra rs.length rc, .slice ga gs.length gc, .slice ta ss.length tc] 38)).alloc (.cells #[.bool false, .slice none 0 0] 40)).cell? ⟨w.heap.size, 2, none⟩ = some (.slice ta ss.length tc) := by rw [World.cell?_alloc_lt _ _ _ (by simp)]; simp
  have y3 : ((w.alloc (.cells #[.slice ra rs.length rc, .slice ga gs.length gc, .slice ta ss.length tc] 38)).alloc (.cells #[.bool false, .slice none 0 0] 40)).cell? ⟨w.heap.size + 1, 0, none⟩ = some (.bool false) := by simp
  have y4 : ((w.alloc (.cells #[.slice ra rs.length rc, .slice ga gs.length gc, .slice ta ss.length tc] 38)).alloc (.cells #[.bool false, .slice none 0 0] 40)).cell? ⟨w.heap.size + 1, 1, none⟩ = some (.slice none 0 0) := by simp
  have yf : ∀ j, ((w.alloc (.cells #[.slice ra rs.length rc, .slice ga gs.length gc, .slice ta ss.length tc] 38)).alloc (.cells #[.bool false, .slice none 0 0] 40)).frozen? ⟨w.heap.size + 1, j, none⟩ = false := fun j => by simp
  have VB : Hid (Below w.heap.size w ((w.alloc (.cells #[.slice ra rs.length rc, .slice ga gs.length gc, .slice ta ss.length tc] 38)).alloc (.cells #[.bool false, .slice none 0 0] 40))) := grow_alloc (grow_alloc (Below.refl _ _) _) _
  have hV2 : ((w.alloc (.cells #[.slice ra rs.length rc, .slice ga gs.length gc, .slice ta ss.length tc] 38)).alloc (.cells #[.bool false, .slice none 0 0] 40)).heap.size = w.heap.size + 2 := by simp
  go_wp2
  generalize ((w.alloc (.cells #[.slice ra rs.length rc, .slice ga gs.length gc, .slice ta ss.length tc] 38)).alloc (.cells #[.bool false, .slice none 0 0] 40)) = V at *
  obtain ⟨B, hB⟩ : ∃ B, B = V.heap.size := ⟨_, rfl⟩
  go_loopw [6, 7] (fun v i wr => ∃ k : Nat, k ≤ rs.length ∧ i = .int .i64 k ∧ wr.ownsRow B 3 1 v k ((Z.take k).map (Value.int .i64)) ∧ Below B V wr) (fun _ i _ => rs.length - (intOf i).toNat)
  case atStart => exact ⟨0, Nat.zero_le _, rfl, World.ownsRow_nil _ _ _ _, Below.refl _ _⟩
  case round =>
    obtain ⟨k, hk, rfl, hown, hnx⟩ := hrel
    have hsz : B ≤ wr.heap.size := by rw [hB]; exact hnx.size
    have hVw : Below V.heap.size V wr := by rw [← hB]; exact hnx
    have hwr : Hid (Below w.heap.size w wr) := grow_trans VB.out hVw
    have z0 := ext_cell hVw y0
    by_cases hlt : k < rs.length
    · obtain ⟨b, off, rfl, hb, c0⟩ := HT.out.r k hlt
      obtain ⟨hz, hz'⟩ := rangeE_get rs HR.out k hlt
      have HTk : Hid (Z.take (k + 1) = Z.take k ++ [getAt s (rs.getD k 0)]) := TK.out k hlt
      generalize rs.getD k 0 = z at *
      obtain ⟨m, rfl⟩ := Int.eq_ofNat_of_zero_le hz
      have hms : m < s.length := by have := H8.out; omega
      obtain ⟨b', off', hadd, hb', c1⟩ := HS.out m hms
      injection hadd with hadd
      subst hadd
      have d0 := ext_cell hwr.out c0
      have d1 := ext_cell hwr.out c1
      have hg : getAt s (m : Int) = s.getD m 0 := rfl
      rw [hg] at HTk
      generalize s.getD m 0 = y at *
      clear c0 c1 hg hz hz' y0 y1 y2 y3 y4 yf hVw
      go_wp2_with (first
        | (at_builtin; refine wpList_append_own _ rfl _ _ 22 rfl B 3 i0 (.int .i64 0) 1 8 Try.underlying22 hi hz0 hz1 hz2 rfl (by decide) _ _ _ rfl (hown.alloc _) ⟨wr.heap.size, 0, none⟩ 1 1 [.int .i64 y] rfl rfl (news_at _ _ _ (by simp)) (ints_oneCell .i64 [y]) (by unfold maxLen; omega) (by omega) (by simp; omega) ?_; intro v' w1 hown' hgrow _)
        | go_in)
      have R : w1.ownsRow B 3 1 v' (k + 1) ((Z.take (k + 1)).map (Value.int .i64)) := by rw [HTk.out, List.map_append]; exact hown'
      have RB := ((hnx.alloc (by omega) _).grown hgrow (by simp; omega) (fun j hj => (hown.lt j hj).1))
      clear hown' hgrow hown hnx d0 d1 z0
      go_wp2
      go_roundw
      case rel => exact ⟨k + 1, by omega, by go_num, R, RB⟩
      case measure => simp [intOf]; omega
    · have R : wr.ownsRow B 3 1 u6 rs.length (Z.map (Value.int .i64)) := by
        have hkk : k = rs.length := by omega
        rw [hkk, List.take_of_length_le (by rw [hkl.out]; exact Nat.le_refl _)] at hown
        exact hown
      obtain ⟨za, zc, rfl, hza, hzn⟩ := at_of_owns2 R
      have z1 := ext_cell hVw y1
      have z2 := ext_cell hVw y2
      have z3 := ext_cell hVw y3
      have z4 := ext_cell hVw y4
      have zf : ∀ j, wr.frozen? ⟨w.heap.size + 1, j, none⟩ = false := fun j => (hVw.frozen (p := ⟨w.heap.size + 1, j, none⟩) (by show w.heap.size + 1 < _; omega)).trans (yf j)
      have hzi : Hid (IsInts wr za Z) := hza.ints (Nat.le_refl _)
      have hzn' : Hid (za = none → zc = 0) := hzn
      have CR : Hid (Calls Try.prog 94 #[.agg #[.slice ra rs.length rc, .slice ga gs.length gc, .slice ta ss.length tc], .slice za Z.length zc] wr fun e w' => ∃ va vc ma mc, e = .returned (.tuple #[.agg #[.bool D, .slice va Z.length vc], .slice ma M.length mc]) ∧ IsAt wr.heap.size w'.heap.size w' va Z ∧ IsAt wr.heap.size w'.heap.size w' ma M ∧ Below wr.heap.size wr w') := CR0.out za zc wr hzi.out hzn'.out hwr.out
      clear hown hnx y0 y1 y2 y3 y4 yf R hza hzn hzi hzn'
      clear CR0 TK
      go_wp2_with fail
      refine CR.out.mono ?_
      clear CR
      rintro e w2 ⟨va, vc, ma, mc, rfl, hva, hma, hb2⟩
      have U : Below w2.heap.size w2 (w2.alloc (.cells #[.bool D, .slice va Z.length vc] 40)) := grow_alloc (Below.refl _ _) _
      have U2 : Below wr.heap.size wr (w2.alloc (.cells #[.bool D, .slice va Z.length vc] 40)) := grow_trans hb2 U
      have q0 := ext_cell U2 z0
      have q1 := ext_cell U2 z1
      have q2 := ext_cell U2 z2
      have q3 := ext_cell U2 z3
      have q4 := ext_cell U2 z4
      have hlw : w.heap.size + 1 < wr.heap.size := by have := hVw.size; omega
      have qf : ∀ j, (w2.alloc (.cells #[.bool D, .slice va Z.length vc] 40)).frozen? ⟨w.heap.size + 1, j, none⟩ = false := fun j => (U2.frozen (p := ⟨w.heap.size + 1, j, none⟩) hlw).trans (zf j)
      have r0 : (w2.alloc (.cells #[.bool D, .slice va Z.length vc] 40)).cell? ⟨w2.heap.size, 0, none⟩ = some (.bool D) := by simp
      have r1 : (w2.alloc (.cells #[.bool D, .slice va Z.length vc] 40)).cell? ⟨w2.heap.size, 1, none⟩ = some (.slice va Z.length vc) := by simp
      have hva2 : Hid (IsAt (w.heap.size + 2) w2.heap.size (w2.alloc (.cells #[.bool D, .slice va Z.length vc] 40)) va Z) := (hva.below U).widen (by omega) (Nat.le_refl _)
      have hma2 : Hid (IsAt (w.heap.size + 2) w2.heap.size (w2.alloc (.cells #[.bool D, .slice va Z.length vc] 40)) ma M) := (hma.below U).widen (by omega) (Nat.le_refl _)
      have hW : Hid (Below w.heap.size w (w2.alloc (.cells #[.bool D, .slice va Z.length vc] 40))) := grow_trans hwr.out U2
      have hR : w2.heap.size < (w2.alloc (.cells #[.bool D, .slice va Z.length vc] 40)).heap.size := by simp
      have hw2 : w.heap.size + 1 < w2.heap.size := by have := hb2.size; omega
      clear U U2 z0 z1 z2 z3 z4 zf hva hma hb2 hwr hVw hsz
      go_upto_region 7 with fail
      generalize (w2.alloc (.cells #[.bool D, .slice va Z.length vc] 40)) = W at *
      generalize w2.heap.size = R at *
      have hsW : Hid (∀ o : Obj, IsInts (W.alloc o) (some ad) s) := fun o => (HS.out.below hW.out).below (grow_alloc (Below.refl _ _) _)
      go_wp2_with (first
        | (at_builtin; refine wpList_append_own _ rfl _ _ 22 rfl W.heap.size 3 i0 (.int .i64 0) 1 8 Try.underlying22 hi hz0 hz1 hz2 rfl (by decide) _ 0 [] rfl (World.ownsRow_lit W #[] 0 (Nat.le_refl _) (by decide) rfl) ad s.length sc (s.map (Value.int .i64)) rfl (by simp) (news_ints (hsW.out _)) (ints_oneCell .i64 s) (by have := H8.out; unfold maxLen; omega) (by have := H8.out; omega) (by simp) ?_; intro v' w3 hown' hgrow _)
        | go_in)
      have RB : Below W.heap.size W w3 := (grow_alloc (Below.refl _ _) _).grown hgrow (by simp) (fun j hj => by have hj' : some W.heap.size = some j := hj; injection hj' with hj'; exact Nat.le_of_eq hj')
      simp only [Nat.zero_add, List.nil_append] at hown'
      obtain ⟨g, cap, rfl, hg1, hg2⟩ := hown'.form (by have := H8.out; omega)
      have p2 := ext_cell RB q2
      have p3 := ext_cell RB q3
      have p4 := ext_cell RB q4
      have hlW : w.heap.size + 1 < W.heap.size := by omega
      have pf : ∀ j, w3.frozen? ⟨w.heap.size + 1, j, none⟩ = false := fun j => (RB.frozen (p := ⟨w.heap.size + 1, j, none⟩) hlW).trans (qf j)
      have t0 := ext_cell RB r0
      have t1 := ext_cell RB r1
      have hva3 : Hid (IsAt (w.heap.size + 2) R w3 va Z) := hva2.out.below RB
      have hma3 : Hid (IsAt (w.heap.size + 2) R w3 ma M) := hma2.out.below RB
      have hW3 : Hid (Below w.heap.size w w3) := grow_trans hW.out RB
      have hown0 : Hid (w3.ownsRow w.heap.size 3 1 (.slice (some ⟨g, 0, none⟩) s.length cap) s.length (s.map (Value.int .i64))) := own_mono hown' (by omega)
      have hW3s : W.heap.size ≤ w3.heap.size := RB.size
      clear hgrow RB q0 q1 q2 q3 q4 qf r0 r1 hva2 hma2 hW hown' hsW
      have far : ∀ {wx : World}, w3.grownBy wx (some g) → ∀ (b : Nat) j v, b ≠ g → w3.cell? ⟨b, j, none⟩ = some v → wx.cell? ⟨b, j, none⟩ = some v := fun hg b j v hne h => hg.cell h (by simpa using hne)
      go_wp2
      go_loopw [11] (fun i wx => ∃ k : Nat, k ≤ M.length ∧ i = .int .i64 k ∧ wx.ownsRow w.heap.size 3 1 (.slice (some ⟨g, 0, none⟩) s.length cap) s.length ((putAll s ((keysOf ss).take k) (M.take k)).map (Value.int .i64)) ∧ w3.grownBy wx (some g)) (fun i _ => M.length - (intOf i).toNat)
      case atStart => exact ⟨0, Nat.zero_le _, rfl, by simpa [putAll] using hown0.out, World.grownBy.refl _ _⟩
      case round =>
        obtain ⟨k2, hk2, rfl, hown, hgr⟩ := hrel
        by_cases hlt2 : k2 < M.length
        · obtain ⟨b, off, rfl, hb1, hb2, m0⟩ := hma3.out k2 hlt2
          have hks : k2 < ss.length := by omega
          obtain ⟨b', off', rfl, hb', k0, _⟩ := HT.out.s k2 hks
          have hkl2 : k2 < (keysOf ss).length := by rw [keys_len]; exact hks
          obtain ⟨hz, hz'⟩ := rangeE_get (keysOf ss) HRK.out k2 hkl2
          have HTk : Hid (putAll s ((keysOf ss).take (k2 + 1)) (M.take (k2 + 1)) = (putAll s ((keysOf ss).take k2) (M.take k2)).set ((keysOf ss).getD k2 0).toNat (M.getD k2 0)) := putAll_take (keysOf ss) s M k2 hkl2 hlt2
          have k1 : w3.cell? ⟨b', off' + k2 * 6, none⟩ = some (.int .i64 ((keysOf ss).getD k2 0)) := by
            rw [keys_get ss k2 hks]
            exact (ext_cell hW3.out k0)
          generalize (keysOf ss).getD k2 0 = z at *
          obtain ⟨m, rfl⟩ := Int.eq_ofNat_of_zero_le hz
          have hms : m < s.length := by have := H8.out; omega
          have q0 := far hgr _ _ _ (by omega) m0
          have q1 := far hgr _ _ _ (by omega) k1
          have q2 := far hgr _ _ _ (by omega) p2
          have hPl : (putAll s ((keysOf ss).take k2) (M.take k2)).length = s.length := putAll_len _ _ _
          have q3 := row_cell hown hPl m hms
          have q4 : ∀ j, wr.frozen? ⟨g, j, none⟩ = false := fun j => hown.frozenAt j
          have R3 : Hid ((wr.setCell ⟨g, m, none⟩ (.int .i64 (M.getD k2 0))).ownsRow w.heap.size 3 1 (.slice (some ⟨g, 0, none⟩) s.length cap) s.length ((putAll s ((keysOf ss).take (k2 + 1)) (M.take (k2 + 1))).map (Value.int .i64))) := by
            rw [HTk.out, List.map_set]
            exact (hown.stored m (.int .i64 (M.getD k2 0))).1
          have R4 : Hid (w3.grownBy (wr.setCell ⟨g, m, none⟩ (.int .i64 (M.getD k2 0))) (some g)) := hgr.trans (grownBy_one wr g m _)
          generalize (putAll s ((keysOf ss).take k2) (M.take k2)).getD m 0 = y at *
          generalize M.getD k2 0 = y' at *
          clear hown hgr hPl m0 k0 k1 p2 p3 p4 pf t0 t1 hz hz'
          go_wp2
          go_region
          all_goals (
            go_wp2
            go_roundw
            case rel => exact ⟨k2 + 1, by omega, by go_num, R3.out.drew, grownBy_drew2 R4.out⟩
            case measure => simp [intOf]; omega)
        · have hkk : k2 = M.length := by omega
          have hML' : M.length ≤ (keysOf ss).length := by rw [keys_len]; exact hML
          have hfin : Hid (wr.ownsRow w.heap.size 3 1 (.slice (some ⟨g, 0, none⟩) s.length cap) s.length ((putAll s (keysOf ss) M).map (Value.int .i64))) := by
            have h := hown
            rw [hkk, List.take_of_length_le (Nat.le_refl M.length), putAll_cut _ _ _ hML'] at h
            exact h
          have q0 := far hgr _ _ _ (by omega) t0
          have q1 := far hgr _ _ _ (by omega) t1
          have q3 := far hgr _ _ _ (by omega) p3
          have q4 := far hgr _ _ _ (by omega) p4
          have qf : ∀ j, wr.frozen? ⟨w.heap.size + 1, j, none⟩ = false := fun j => (hgr.frozen_far ⟨w.heap.size + 1, j, none⟩ (by show w.heap.size + 1 < _; omega) (by simp; omega)).trans (pf j)
          have hvr : Hid (IsAt (w.heap.size + 2) R wr va Z) := hva3.out.keptBy hgr (fun _ ad ha e => by
            obtain ⟨b, off, ha', _, h2, _⟩ := hva3.out 0 (List.length_pos_iff.2 (by assumption))
            rw [ha] at ha'
            injection ha' with ha'
            subst ha'
            injection e with e
            simp at e
            omega)
          have hRs : R ≤ wr.heap.size := by have := hgr.size; omega
          have hG : Hid (Below w.heap.size w wr) := hW3.out.grown hgr (by omega) (fun j e => by injection e with e; omega)
          clear hown hgr p2 p3 p4 pf t0 t1 far hva3 hma3 hown0
          go_wp2
          go_region
          all_goals (
            go_wp2
            obtain ⟨aa, ac, hae, hai⟩ := at_of_owns hfin.out
            have hPl : (putAll s (keysOf ss) M).length = s.length := putAll_len _ _ _
            rw [← hPl] at hae
            injection hae with e1 e2 e3
            subst e1
            refine bodyPost_ret (v := .tuple #[.slice (some ⟨g, 0, none⟩) s.length cap, .agg #[.bool D, .slice va Z.length vc]]) (by simp [results, Try.results70, go_sem, q3, q4]) rfl ⟨_, cap, va, vc, rfl, ?_, (fun h => by cases h), ?_, ?_⟩
            · have far2 : putAll s (keysOf ss) M ≠ [] → ∀ ad, (some ⟨g, 0, none⟩ : Option Addr) = some ad → (some (w.heap.size + 1) : Option Nat) ≠ some ad.block := fun _ ad ha e => by
                injection ha with ha
                subst ha
                injection e with e
                simp at e
                omega
              exact (((hai.keptBy (grownBy_one wr (w.heap.size + 1) 0 _) far2).keptBy (grownBy_one _ (w.heap.size + 1) 1 _) far2).below (grow_drew (Below.refl _ _))).widen (Nat.le_refl _) (by simp)
            · exact (((hvr.out.set ⟨w.heap.size + 1, 0, none⟩ _ (.inl (by simp))).set ⟨w.heap.size + 1, 1, none⟩ _ (.inl (by simp))).below (grow_drew (Below.refl _ _))).widen (by omega) (by simpa using hRs)
            · exact grow_drew (grow_set (grow_set hG.out (by simp) _) (by simp) _))
end Go.Proofs.Ytcgpkonfneofdaa
