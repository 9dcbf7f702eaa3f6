/-
  The law PlaceTrue, walked.
  Conditions: those that each theorem states.
-/
import Derived.Test.YtfogphljilgogaaPlaceK
import Derived.WalkKit
import Derived.WalkSpells
import Derived.WalkLawsBesides
import Derived.ProofKit
import Derived.Deep.RegionHeld3
import Derived.BigQuiet
namespace Go.Proofs.Ytfogphljilgogaa
open Go.RowKit

theorem locksAt_range (l : List TxA) (k : Nat) : ∀ i, i < (locksAt l k).length → 0 ≤ ((locksAt l k).getD i (0, false)).1 ∧ ((locksAt l k).getD i (0, false)).1 < 8 := fun i hi => by
  have hm : (locksAt l k).getD i (0, false) ∈ locksAt l k := by simp [List.getD, hi]
  exact lkTo_range _ _ 8 _ hm

variable (la : Option Addr) (lc : Nat) (l : List TxA) (m n c : Int)

set_option maxRecDepth 100000 in
set_option maxHeartbeats 1000000 in
theorem placeTrue_bad (w : World) (hl : IsTxs w la l) (he : ¬ pnE m l n = 0) :
    Calls Try.prog 8 #[.agg #[.int .i64 m, .slice la l.length lc], .int .i64 n, .int .i64 c] w fun e w' => e = .returned (.bool true) ∧ Below w.heap.size w w' := by
  have CP : Hid (∀ w, IsTxs w la l → Calls Try.prog 22 #[.agg #[.int .i64 m, .slice la l.length lc], .int .i64 n] w fun e w' => ∃ a c, e = .returned (.tuple #[.slice a 0 c, .int .i64 (pnE m l n)]) ∧ Below w.heap.size w w') := fun w h => by
    have h1 := part_any la lc l m n w h
    have e1 : partL m l n = [] := if_neg he
    rw [e1] at h1
    exact h1.mono fun e w' ⟨a, c, h1, _, h3⟩ => ⟨a, c, h1, h3⟩
  have CA : Hid (∀ w, IsTxs w la l → Calls Try.prog 23 #[.agg #[.int .i64 m, .slice la l.length lc], .int .i64 n] w fun e w' => ∃ a c, e = .returned (.tuple #[.slice a 0 c, .int .i64 (pnE m l n)]) ∧ Below w.heap.size w w') := fun w h => by
    have h1 := active_any la lc l m n w h
    have e1 : activeL m l n = [] := if_neg he
    rw [e1] at h1
    exact h1.mono fun e w' ⟨a, c, h1, _, h3⟩ => ⟨a, c, h1, h3⟩
  generalize pnE m l n = u at *
  have hu : (u != 0) = true := by simpa using he
  have hg : Below w.heap.size w (w.alloc (.cells #[.int .i64 m, .slice la l.length lc] 51)) := grow_alloc (Below.refl _ _) _
  have HL0 : Hid (IsTxs (w.alloc (.cells #[.int .i64 m, .slice la l.length lc] 51)) la l) := hl.below hg
  have q0 : (w.alloc (.cells #[.int .i64 m, .slice la l.length lc] 51)).cell? ⟨w.heap.size, 0, none⟩ = some (.int .i64 m) := by simp
  have q1 : (w.alloc (.cells #[.int .i64 m, .slice la l.length lc] 51)).cell? ⟨w.heap.size, 1, none⟩ = some (.slice la l.length lc) := by simp
  have B0 : Hid (Below w.heap.size w (w.alloc (.cells #[.int .i64 m, .slice la l.length lc] 51))) := hg
  clear hg hl he
  go_enter Try.func8, Try.ntmps8
  go_wp2_with fail
  generalize w.alloc (.cells #[.int .i64 m, .slice la l.length lc] 51) = W0 at *
  refine (CP.out _ HL0.out).mono ?_
  rintro e w1 ⟨pa, pc, rfl, hb1⟩
  have q0 := ext_cell hb1 q0
  have q1 := ext_cell hb1 q1
  have HL1 : Hid (IsTxs w1 la l) := HL0.out.below hb1
  have B1 : Hid (Below w.heap.size w w1) := grow_trans B0.out hb1
  clear hb1 HL0 B0 CP
  go_wp2_with fail
  refine (CA.out _ HL1.out).mono ?_
  rintro e w2 ⟨ra, rc, rfl, hb2⟩
  have B2 : Hid (Below w.heap.size w w2) := grow_trans B1.out hb2
  clear hb2 HL1 B1 CA q0 q1
  go_wp2_with fail
  refine (placeBegun_any _).mono ?_
  rintro e w3 ⟨rfl, hb3⟩
  have B3 : Below w.heap.size w w3 := grow_trans B2.out hb3
  clear hb3 B2
  go_wp2
  go_ret
  exact ⟨rfl, B3⟩

set_option maxRecDepth 100000 in
set_option maxHeartbeats 4000000 in
theorem placeTrue_ok (sh k : Nat) (w : World) (hl : IsTxs w la l) (he : pnE sh l k = 0) (hc : (Lit.int .i64 c).wf = true) :
    Calls Try.prog 8 #[.agg #[.int .i64 sh, .slice la l.length lc], .int .i64 k, .int .i64 c] w fun e w' => e = .returned (.bool true) ∧ Below w.heap.size w w' := by
  have hp := planE_zero (pnE_zero he).1
  have hkl : k < l.length := by have := noneE_zero (pnE_zero he).2; omega
  have hl8 := chkL_small hp.2.2
  have s0 : 0 < sh := by omega
  have s4 : sh ≤ 4 := by omega
  have hLL : (locksAt l k).length ≤ 8 := locksAt_len l k
  have CP : Hid (∀ w, IsTxs w la l → Calls Try.prog 22 #[.agg #[.int .i64 sh, .slice la l.length lc], .int .i64 k] w fun e w' => ∃ a c, e = .returned (.tuple #[.slice a sh c, .int .i64 0]) ∧ IsBools w' a (marks sh (keysIn (locksAt l k))) ∧ Below w.heap.size w w') := fun w h => by
    have h1 := part_any la lc l sh k w h
    have e1 : partL sh l k = marks sh (keysIn (locksAt l k)) := if_pos he
    rw [e1, he, marks_len] at h1
    exact h1
  have CA : Hid (∀ w, IsTxs w la l → Calls Try.prog 23 #[.agg #[.int .i64 sh, .slice la l.length lc], .int .i64 k] w fun e w' => ∃ a c, e = .returned (.tuple #[.slice a sh c, .int .i64 0]) ∧ IsBools w' a (marks sh (setsIn (locksAt l k))) ∧ Below w.heap.size w w') := fun w h => by
    have h1 := active_any la lc l sh k w h
    have e1 : activeL sh l k = marks sh (setsIn (locksAt l k)) := if_pos he
    rw [e1, he, marks_len] at h1
    exact h1
  have CH : Hid (∀ w', Calls Try.prog 20 #[.int .i64 c, .int .i64 sh] w' fun e w'' => ∃ j : Nat, j < sh ∧ e = .returned (.int .i64 j) ∧ w'' = w') := fun w' => choose_any c sh w' hc s0 (by omega)
  have CS : Hid (∀ (y : Nat) w, y < 8 → IsTxs w la l → Calls Try.prog 21 #[.agg #[.int .i64 sh, .slice la l.length lc], .int .i64 y] w fun e w' => ∃ r : Nat, Hid (r = y % sh) ∧ e = .returned (.tuple #[.int .i64 (r : Int), .int .i64 0]) ∧ Below w.heap.size w w') := fun y w hy h => by
    have h1 := shard_any la lc l sh y w h
    have e1 : shardE sh l y = 0 := by unfold shardE; rw [(pnE_zero he).1, if_neg (by omega)]; rfl
    have e2 : shardV sh l y = ((y % sh : Nat) : Int) := by unfold shardV; rw [if_pos e1]; simp
    rw [e1, e2] at h1
    exact h1.mono fun e w' ⟨h1, h2⟩ => ⟨y % sh, rfl, h1, h2⟩
  have HAP : Hid (∀ i, i < sh → (marks sh (setsIn (locksAt l k))).getD i false = true → (marks sh (keysIn (locksAt l k))).getD i false = true) := fun i hi h => active_part sh i hi _ h
  have HSM : Hid ((marks sh (setsIn (locksAt l k))).any id = true) := active_some sh s0 (l.getD k x0) (chkL_in hp.2.2 k hkl)
  have HG : Hid (∀ i, i < sh → (marks sh (keysIn (locksAt l k))).getD i false = (locksAt l k).any (fun p => p.1.toNat % sh == i) ∧ (marks sh (setsIn (locksAt l k))).getD i false = (locksAt l k).any (fun p => p.1.toNat % sh == i && p.2)) := fun i hi => ⟨(marks_get sh i hi _).trans (keys_any _ _), (marks_get sh i hi _).trans (sets_any _ _)⟩
  have HRG : Hid (∀ i, i < (locksAt l k).length → 0 ≤ ((locksAt l k).getD i (0, false)).1 ∧ ((locksAt l k).getD i (0, false)).1 < 8) := locksAt_range l k
  have HAL : Hid ((marks sh (setsIn (locksAt l k))).length = sh) := marks_len _ _
  have HPL : Hid ((marks sh (keysIn (locksAt l k))).length = sh) := marks_len _ _
  obtain ⟨b, off, rfl, hb, c0, c1, c2, hx⟩ := hl k hkl
  have HX : Hid (IsX w (l.getD k x0)) := hx
  have hlk : Hid (lksOf (l.getD k x0).rs (l.getD k x0).gs (l.getD k x0).ss = locksAt l k) := if_pos (chkL_in hp.2.2 k hkl)
  have hch : Hid (chkTx (l.getD k x0).rs (l.getD k x0).gs (l.getD k x0).ss = 0) := chkL_in hp.2.2 k hkl
  clear hx hp hc he
  have hg : Below w.heap.size w (w.alloc (.cells #[.int .i64 sh, .slice (some ⟨b, off, none⟩) l.length lc] 51)) := grow_alloc (Below.refl _ _) _
  have HL0 : Hid (IsTxs (w.alloc (.cells #[.int .i64 sh, .slice (some ⟨b, off, none⟩) l.length lc] 51)) (some ⟨b, off, none⟩) l) := hl.below hg
  have q0 : (w.alloc (.cells #[.int .i64 sh, .slice (some ⟨b, off, none⟩) l.length lc] 51)).cell? ⟨w.heap.size, 0, none⟩ = some (.int .i64 sh) := by simp
  have q1 : (w.alloc (.cells #[.int .i64 sh, .slice (some ⟨b, off, none⟩) l.length lc] 51)).cell? ⟨w.heap.size, 1, none⟩ = some (.slice (some ⟨b, off, none⟩) l.length lc) := by simp
  have B0 : Hid (Below w.heap.size w (w.alloc (.cells #[.int .i64 sh, .slice (some ⟨b, off, none⟩) l.length lc] 51))) := hg
  clear hg hl
  generalize locksAt l k = L at *
  generalize marks sh (keysIn L) = P at *
  generalize marks sh (setsIn L) = A at *
  generalize l.getD k x0 = x at *
  obtain ⟨xra, xga, xsa, xrc, xgc, xsc, rs, gs, ss⟩ := x
  simp only at c0 c1 c2 hlk hch
  go_enter Try.func8, Try.ntmps8
  go_wp2_with fail
  generalize w.alloc (.cells #[.int .i64 sh, .slice (some ⟨b, off, none⟩) l.length lc] 51) = W0 at *
  refine (CP.out _ HL0.out).mono ?_
  rintro e w1 ⟨pa, pc, rfl, hp, hb1⟩
  have q0 := ext_cell hb1 q0
  have q1 := ext_cell hb1 q1
  have HP1 : Hid (IsBools w1 pa P) := hp
  have HL1 : Hid (IsTxs w1 (some ⟨b, off, none⟩) l) := HL0.out.below hb1
  have B1 : Hid (Below w.heap.size w w1) := grow_trans B0.out hb1
  clear hb1 HL0 B0 CP hp
  go_wp2_with fail
  refine (CA.out _ HL1.out).mono ?_
  rintro e w2 ⟨ra, rc, rfl, hr, hb2⟩
  have q0 := ext_cell hb2 q0
  have q1 := ext_cell hb2 q1
  have HR2 : Hid (IsBools w2 ra A) := hr
  have HP2 : Hid (IsBools w2 pa P) := HP1.out.below hb2
  have HL2 : Hid (IsTxs w2 (some ⟨b, off, none⟩) l) := HL1.out.below hb2
  have B2 : Hid (Below w.heap.size w w2) := grow_trans B1.out hb2
  have d0 := ext_cell B2.out c0
  have d1 := ext_cell B2.out c1
  have d2 := ext_cell B2.out c2
  clear hb2 HL1 B1 CA hr HP1 c0 c1 c2
  have b1 : ((sh : Int) != (sh : Int)) = false := by simp
  have b2 : ((sh : Int) == 0) = false := beq_eq_false_iff_ne.2 (by omega)
  have b3 : ¬ (k : Int) < 0 := by omega
  have b4 : ¬ (l.length : Int) ≤ (k : Int) := by omega
  go_wp2
  go_loopw [11, 12] (fun v i wr => ∃ j : Nat, j ≤ sh ∧ i = .int .i64 j ∧ v = .bool ((A.take j).any id) ∧ wr = w2) (fun _ i _ => sh - (intOf i).toNat)
  case atStart => exact ⟨0, Nat.zero_le _, rfl, by simp, rfl⟩
  case round =>
    obtain ⟨j, hj, rfl, rfl, rfl⟩ := hrel
    by_cases hlt : j < sh
    · obtain ⟨bp, op, rfl, _, p0⟩ := HP2.out j (by rw [HPL.out]; exact hlt)
      obtain ⟨ba, oa, rfl, _, a0⟩ := HR2.out j (by rw [HAL.out]; exact hlt)
      have HN : Hid ((A.take (j + 1)).any id = ((A.take j).any id || A.getD j false)) := any_bools A j (by rw [HAL.out]; exact hlt)
      have hxy := HAP.out j hlt
      generalize (A.take j).any id = s at *
      generalize A.getD j false = x at *
      generalize P.getD j false = y at *
      cases x with
      | true =>
        have hy : y = true := hxy rfl
        subst hy
        clear hxy
        have HN' : Hid ((A.take (j + 1)).any id = true) := by show _ = _; rw [HN.out]; simp
        clear HN
        cases s with
        | true =>
          go_wp2
          go_roundw
          case rel => exact ⟨j + 1, by omega, by go_num, by rw [HN'.out], trivial⟩
          case measure => simp [intOf]; omega
        | false =>
          go_wp2
          go_roundw
          case rel => exact ⟨j + 1, by omega, by go_num, by rw [HN'.out], trivial⟩
          case measure => simp [intOf]; omega
      | false =>
        clear hxy
        have HN' : Hid ((A.take (j + 1)).any id = s) := by show _ = _; rw [HN.out]; simp
        clear HN
        cases s with
        | true =>
          go_wp2
          go_roundw
          case rel => exact ⟨j + 1, by omega, by go_num, by rw [HN'.out], trivial⟩
          case measure => simp [intOf]; omega
        | false =>
          go_wp2
          go_roundw
          case rel => exact ⟨j + 1, by omega, by go_num, by rw [HN'.out], trivial⟩
          case measure => simp [intOf]; omega
    · have hjj : j = sh := by omega
      have HA1 : Hid ((A.take j).any id = true) := by
        show _ = _
        rw [hjj, List.take_of_length_le (by rw [HAL.out]; exact Nat.le_refl _)]
        exact HSM.out
      rw [HA1.out]
      clear HA1 HSM HAP hjj
      go_wp2_with fail
      refine (CH.out _).mono ?_
      rintro e w' ⟨kk, hkk, rfl, hw'⟩
      rw [hw']
      clear hw' w' CH
      obtain ⟨HG1, HG2⟩ := HG.out kk hkk
      clear HG
      go_wp2_with fail
      refine (locks_any xra xga xsa xrc xgc xsc rs gs ss _ (HX.out.t.below B2.out)).mono ?_
      rintro e w3 ⟨ka, kc, rfl, hL, hb3⟩
      rw [hlk.out] at hL ⊢
      rw [hch.out]
      have HLK : Hid (IsLks w3 ka L) := hL
      have q0 := ext_cell hb3 q0
      have q1 := ext_cell hb3 q1
      have HP3 : Hid (IsBools w3 pa P) := HP2.out.below hb3
      have HR3 : Hid (IsBools w3 ra A) := HR2.out.below hb3
      have HL3 : Hid (IsTxs w3 (some ⟨b, off, none⟩) l) := HL2.out.below hb3
      have B3 : Hid (Below w.heap.size w w3) := grow_trans B2.out hb3
      clear hb3 hL HP2 HR2 HL2 B2 d0 d1 d2 HX hlk hch
      have HG1' : Hid (P.getD kk false = L.any (fun p => p.1.toNat % sh == kk)) := HG1
      have HG2' : Hid (A.getD kk false = L.any (fun p => p.1.toNat % sh == kk && p.2)) := HG2
      clear HG1 HG2
      go_wp2
      go_loopw [16, 17, 18, 19, 20] (fun v v2 i _ _ wr => ∃ j : Nat, j ≤ L.length ∧ i = .int .i64 j ∧ v = .bool ((L.take j).any (fun p => p.1.toNat % sh == kk)) ∧ v2 = .bool ((L.take j).any (fun p => p.1.toNat % sh == kk && p.2)) ∧ Hid (Below w3.heap.size w3 wr)) (fun _ _ i _ _ _ => L.length - (intOf i).toNat)
      case atStart => exact ⟨0, Nat.zero_le _, rfl, by simp, by simp, Below.refl _ _⟩
      case round =>
        obtain ⟨i, hi, rfl, rfl, rfl, hnx⟩ := hrel
        by_cases hlt2 : i < L.length
        · obtain ⟨bk, ok, rfl, _, k0, k1⟩ := HLK.out i hlt2
          obtain ⟨z0, z8⟩ := HRG.out i hlt2
          have HN1 : Hid ((L.take (i + 1)).any (fun p => p.1.toNat % sh == kk) = ((L.take i).any (fun p => p.1.toNat % sh == kk) || ((L.getD i (0, false)).1.toNat % sh == kk))) := any_take L _ i hlt2
          have HN2 : Hid ((L.take (i + 1)).any (fun p => p.1.toNat % sh == kk && p.2) = ((L.take i).any (fun p => p.1.toNat % sh == kk && p.2) || ((L.getD i (0, false)).1.toNat % sh == kk && (L.getD i (0, false)).2))) := any_take L _ i hlt2
          generalize (L.take i).any (fun p => p.1.toNat % sh == kk) = s at *
          generalize (L.take i).any (fun p => p.1.toNat % sh == kk && p.2) = t at *
          generalize L.getD i (0, false) = pr at *
          obtain ⟨z, wt⟩ := pr
          simp only at z0 z8 k0 k1 HN1 HN2
          obtain ⟨y, rfl⟩ := Int.eq_ofNat_of_zero_le z0
          have hy : y < 8 := by omega
          have e0 := ext_cell hnx.out q0
          have e1 := ext_cell hnx.out q1
          have f0 := ext_cell hnx.out k0
          have f1 := ext_cell hnx.out k1
          have HLr : Hid (IsTxs wr (some ⟨b, off, none⟩) l) := HL3.out.below hnx.out
          have hty : ((y : Nat) : Int).toNat = y := by simp
          rw [hty] at HN1 HN2
          clear hty z0 z8 k0 k1
          have i1 : (0 : Int) ≤ (i : Int) := by omega
          have i2 : (i : Int) < (L.length : Int) := by omega
          have HK : Hid (∀ w', Below wr.heap.size wr w' → w'.cell? ⟨w.heap.size, 0, none⟩ = some (.int .i64 sh) ∧ w'.cell? ⟨w.heap.size, 1, none⟩ = some (.slice (some ⟨b, off, none⟩) l.length lc) ∧ w'.cell? ⟨bk, ok + i * 2, none⟩ = some (.int .i64 y) ∧ w'.cell? ⟨bk, ok + i * 2 + 1, none⟩ = some (.bool wt) ∧ Hid (Below wr.heap.size wr w')) := fun w' h => ⟨ext_cell h e0, ext_cell h e1, ext_cell h f0, ext_cell h f1, h⟩
          go_wp2_with fail
          go_region_held3 (fun w' => w'.cell? ⟨w.heap.size, 0, none⟩ = some (.int .i64 sh) ∧ w'.cell? ⟨w.heap.size, 1, none⟩ = some (.slice (some ⟨b, off, none⟩) l.length lc) ∧ w'.cell? ⟨bk, ok + i * 2, none⟩ = some (.int .i64 y) ∧ w'.cell? ⟨bk, ok + i * 2 + 1, none⟩ = some (.bool wt) ∧ Hid (Below wr.heap.size wr w')) ((refine HK.out _ ?_; go_split_ands; repeat (first | assumption | exact Below.refl _ _ | exact Hid.out (by assumption) | refine grow_drew ?_ | refine grow_alloc ?_ _ | refine grow_trans ?_ (by assumption))))
            (first
              | (go_at_call 21; refine (CS.out y _ hy ?_).mono ?_; (refine HLr.out.below ?_; go_split_ands; exact Hid.out (by assumption)); rintro e w6 ⟨r, hr, rfl, hb6⟩))
          obtain ⟨q6, q7, m0, m1, hC⟩ := (‹_ ∧ _ ∧ _ ∧ _ ∧ Hid (Below wr.heap.size wr w6)› : w6.cell? ⟨w.heap.size, 0, none⟩ = some (.int .i64 sh) ∧ w6.cell? ⟨w.heap.size, 1, none⟩ = some (.slice (some ⟨b, off, none⟩) l.length lc) ∧ w6.cell? ⟨bk, ok + i * 2, none⟩ = some (.int .i64 y) ∧ w6.cell? ⟨bk, ok + i * 2 + 1, none⟩ = some (.bool wt) ∧ Hid (Below wr.heap.size wr w6))
          have hBn : Hid (Below w3.heap.size w3 w6) := grow_trans hnx.out hC.out
          clear hC hb6 HK e0 e1 f0 f1 HLr hnx
          rw [← hr.out] at HN1 HN2
          clear hr
          by_cases hD : r = kk
          · have hd1 : ((r : Int) == (kk : Int)) = true := by simp [hD]
            have hd2 : (r == kk) = true := by simp [hD]
            rw [hd2] at HN1 HN2
            clear hD hd2
            cases s with
            | true =>
              cases t with
              | true =>
                cases wt with
                | true =>
                  go_wp2
                  go_roundw
                  case rel => exact ⟨i + 1, by omega, by go_num, by rw [HN1.out]; rfl, by rw [HN2.out]; rfl, hBn⟩
                  case measure => simp [intOf]; omega
                | false =>
                  go_wp2
                  go_roundw
                  case rel => exact ⟨i + 1, by omega, by go_num, by rw [HN1.out]; rfl, by rw [HN2.out]; rfl, hBn⟩
                  case measure => simp [intOf]; omega
              | false =>
                cases wt with
                | true =>
                  go_wp2
                  go_roundw
                  case rel => exact ⟨i + 1, by omega, by go_num, by rw [HN1.out]; rfl, by rw [HN2.out]; rfl, hBn⟩
                  case measure => simp [intOf]; omega
                | false =>
                  go_wp2
                  go_roundw
                  case rel => exact ⟨i + 1, by omega, by go_num, by rw [HN1.out]; rfl, by rw [HN2.out]; rfl, hBn⟩
                  case measure => simp [intOf]; omega
            | false =>
              cases t with
              | true =>
                cases wt with
                | true =>
                  go_wp2
                  go_roundw
                  case rel => exact ⟨i + 1, by omega, by go_num, by rw [HN1.out]; rfl, by rw [HN2.out]; rfl, hBn⟩
                  case measure => simp [intOf]; omega
                | false =>
                  go_wp2
                  go_roundw
                  case rel => exact ⟨i + 1, by omega, by go_num, by rw [HN1.out]; rfl, by rw [HN2.out]; rfl, hBn⟩
                  case measure => simp [intOf]; omega
              | false =>
                cases wt with
                | true =>
                  go_wp2
                  go_roundw
                  case rel => exact ⟨i + 1, by omega, by go_num, by rw [HN1.out]; rfl, by rw [HN2.out]; rfl, hBn⟩
                  case measure => simp [intOf]; omega
                | false =>
                  go_wp2
                  go_roundw
                  case rel => exact ⟨i + 1, by omega, by go_num, by rw [HN1.out]; rfl, by rw [HN2.out]; rfl, hBn⟩
                  case measure => simp [intOf]; omega
          · have hd1 : ((r : Int) == (kk : Int)) = false := beq_eq_false_iff_ne.2 (by omega)
            have hd2 : (r == kk) = false := by simp [hD]
            rw [hd2] at HN1 HN2
            clear hD hd2
            cases s with
            | true =>
              cases t with
              | true =>
                go_wp2
                go_roundw
                case rel => exact ⟨i + 1, by omega, by go_num, by rw [HN1.out]; rfl, by rw [HN2.out]; rfl, hBn⟩
                case measure => simp [intOf]; omega
              | false =>
                go_wp2
                go_roundw
                case rel => exact ⟨i + 1, by omega, by go_num, by rw [HN1.out]; rfl, by rw [HN2.out]; rfl, hBn⟩
                case measure => simp [intOf]; omega
            | false =>
              cases t with
              | true =>
                go_wp2
                go_roundw
                case rel => exact ⟨i + 1, by omega, by go_num, by rw [HN1.out]; rfl, by rw [HN2.out]; rfl, hBn⟩
                case measure => simp [intOf]; omega
              | false =>
                go_wp2
                go_roundw
                case rel => exact ⟨i + 1, by omega, by go_num, by rw [HN1.out]; rfl, by rw [HN2.out]; rfl, hBn⟩
                case measure => simp [intOf]; omega
        · have hii : i = L.length := by omega
          rw [hii, List.take_of_length_le (Nat.le_refl _), ← HG1'.out, ← HG2'.out]
          obtain ⟨bp, op, rfl, _, p0⟩ := HP3.out kk (by rw [HPL.out]; exact hkk)
          obtain ⟨ba, oa, rfl, _, a0⟩ := HR3.out kk (by rw [HAL.out]; exact hkk)
          have f0 := ext_cell hnx.out p0
          have f1 := ext_cell hnx.out a0
          generalize P.getD kk false = x at *
          generalize A.getD kk false = y at *
          have B4 : Hid (Below w.heap.size w wr) := grow_trans B3.out hnx.out
          clear hii hnx p0 a0 HG1' HG2' B3
          go_wp2_with fail
          refine (placeBegun_any _).mono ?_
          rintro e w9 ⟨rfl, hb9⟩
          have g0 := ext_cell hb9 f0
          have g1 := ext_cell hb9 f1
          have B9 : Below w.heap.size w w9 := grow_trans B4.out hb9
          clear hb9 f0 f1 B4
          go_wp2
          go_ret
          exact ⟨rfl, B9⟩
end Go.Proofs.Ytfogphljilgogaa
