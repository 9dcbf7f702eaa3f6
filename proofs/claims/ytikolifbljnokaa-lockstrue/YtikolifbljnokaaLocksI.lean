/-
  LocksTrue walked: those are ready that are not done, and with which none ahead clashes that is not done; no two of them clash; if not all are done one is ready.
  Conditions: the arguments can be read.
-/
import Derived.Test.YtikolifbljnokaaLocksH
import Derived.OwnWalk
import Derived.Laws.OwnMore
import Derived.WalkKit
import Derived.WalkSpells
import Derived.WalkLawsBesides
import Derived.ProofKit
import Derived.Deep.RegionHeld3
import Derived.BigQuiet
import Derived.Deep.RegionLaw
import Derived.Deep.DeepCutAuto
namespace Go.Proofs.Ytikolifbljnokaa
open Go.RowKit

theorem madeB5 : (madeCells (Value.bool false).cells (5 * 1)).toList = (List.replicate 5 false).map Value.bool := by kernel_rfl
theorem madeB6 : (madeCells (Value.bool false).cells (6 * 1)).toList = (List.replicate 6 false).map Value.bool := by kernel_rfl
theorem madeB7 : (madeCells (Value.bool false).cells (7 * 1)).toList = (List.replicate 7 false).map Value.bool := by kernel_rfl
theorem madeB8 : (madeCells (Value.bool false).cells (8 * 1)).toList = (List.replicate 8 false).map Value.bool := by kernel_rfl
theorem made_bools8 (n : Nat) (h : n ≤ 8) : (madeCells (Value.bool false).cells (n * 1)).toList = (List.replicate n false).map Value.bool := by
  by_cases h4 : n ≤ 4
  · exact made_bools n h4
  · have e : n = 5 ∨ n = 6 ∨ n = 7 ∨ n = 8 := by omega
    rcases e with rfl | rfl | rfl | rfl
    · exact madeB5
    · exact madeB6
    · exact madeB7
    · exact madeB8

/-- Truths at these places. -/
def onN (n : Nat) (L : List Nat) : List Bool := L.foldl (fun bs i => bs.set i true) (List.replicate n false)
theorem onN_snoc (n : Nat) (L : List Nat) (i : Nat) : onN n (L ++ [i]) = (onN n L).set i true := by simp [onN]
theorem onN_len (n : Nat) (L : List Nat) : (onN n L).length = n := by
  have h : ∀ (L : List Nat) (bs : List Bool), (L.foldl (fun bs i => bs.set i true) bs).length = bs.length := by
    intro L
    induction L with
    | nil => intro bs; rfl
    | cons a t ih => intro bs; rw [List.foldl_cons, ih]; simp
  rw [onN, h, List.length_replicate]
theorem onN_take (n : Nat) (L : List Nat) (k : Nat) (h : k < L.length) : onN n (L.take (k + 1)) = (onN n (L.take k)).set (L.getD k 0) true := by
  rw [List.take_succ_eq_append_getElem h, onN_snoc]
  simp [List.getD, h]
theorem onN_get (n : Nat) (L : List Nat) (i : Nat) (hi : i < n) : (onN n L).getD i false = decide (i ∈ L) := by
  have h : ∀ (L : List Nat) (bs : List Bool), i < bs.length → (L.foldl (fun bs i => bs.set i true) bs).getD i false = (bs.getD i false || decide (i ∈ L)) := by
    intro L
    induction L with
    | nil => intro bs _; simp
    | cons a t ih =>
      intro bs hb
      rw [List.foldl_cons, ih _ (by simpa using hb)]
      by_cases e : a = i
      · subst e
        simp [List.getD, hb]
      · have e' : ¬ i = a := fun q => e q.symm
        simp [List.getD, List.getElem?_set_ne e, e']
  rw [onN, h _ _ (by simpa using hi)]
  simp [List.getD, hi]
theorem onN_ready (l : List TxA) (done : List Bool) (i : Nat) (hi : i < l.length) : (onN l.length (readyL l done)).getD i false = readyX l done i := by
  rw [onN_get _ _ _ hi, Bool.eq_iff_iff, decide_eq_true_eq]
  unfold readyL
  rw [readyTo_mem]
  exact ⟨fun h => h.2, fun h => ⟨hi, h⟩⟩
/-- How many of the first n are not done. -/
def undone (done : List Bool) : Nat → Nat
  | 0 => 0
  | n + 1 => undone done n + (if dn done n = true then 0 else 1)
theorem undone_le (done : List Bool) : ∀ n, undone done n ≤ n
  | 0 => Nat.le_refl _
  | n + 1 => by
    have := undone_le done n
    unfold undone
    split <;> omega
theorem undone_zero (done : List Bool) : ∀ n, undone done n = 0 ↔ ∀ i, i < n → dn done i = true
  | 0 => by simp [undone]
  | n + 1 => by
    unfold undone
    constructor
    · intro h i hi
      by_cases hd : dn done n = true
      · by_cases e : i = n
        · subst e; exact hd
        · exact (undone_zero done n).1 (by omega) i (by omega)
      · rw [if_neg hd] at h; omega
    · intro h
      rw [if_pos (h n (by omega)), (undone_zero done n).2 (fun i hi => h i (by omega))]
theorem undone_ready (l : List TxA) (done : List Bool) : ((undone done l.length : Int) == 0) = (((nI (readyL l done)).length : Int) == 0) := by
  rw [Bool.eq_iff_iff, beq_iff_eq, beq_iff_eq, nI_len]
  have h1 := undone_zero done l.length
  have h2 := readyL_none l done
  constructor
  · intro h
    have : readyL l done = [] := h2.2 (h1.1 (by omega))
    rw [this]; rfl
  · intro h
    have : readyL l done = [] := List.length_eq_zero_iff.1 (by omega)
    have := h1.2 (h2.1 this)
    omega

variable (la : Option Addr) (lc : Nat) (l : List TxA) (ba : Option Addr) (bc : Nat) (done : List Bool)

set_option maxRecDepth 100000 in
set_option maxHeartbeats 8000000 in
theorem locksTrue_walk (w : World) (hl : IsTxs w la l) (hb : IsBools w ba done) :
    Calls Try.prog 7 #[.slice la l.length lc, .slice ba done.length bc] w fun e w' => e = .returned (.bool true) ∧ Below w.heap.size w w' := by
  obtain ⟨i0, hi, hz0, hz1, hz2⟩ := info_parts Try.info4
  have HL : Hid (IsTxs w la l) := hl
  have HB : Hid (IsBools w ba done) := hb
  have CR : Hid (Calls Try.prog 26 #[.slice la l.length lc, .slice ba done.length bc] w fun e w' => ∃ a c, e = .returned (.tuple #[.slice a (nI (rdL l done)).length c, .int .i64 (rdE l done)]) ∧ Hid (IsInts w' a (nI (rdL l done))) ∧ Below w.heap.size w w') := ready_any la lc l ba bc done w hl hb
  clear hl hb
  by_cases hE : rdE l done = 0
  · obtain ⟨hC, hd⟩ := rdE_zero hE
    have hl8 := chkL_small hC
    have eR : rdL l done = readyL l done := if_pos hE
    rw [eR, hE] at CR
    have HC : Hid (chkL l = 0) := hC
    have HD : Hid (done.length = l.length) := hd
    have hne : ((done.length : Int) != (l.length : Int)) = false := by rw [hd]; simp
    have HM : Hid ((madeCells (Value.bool false).cells (l.length * 1)).toList = (List.replicate l.length false).map Value.bool) := made_bools8 l.length hl8
    have HRL : Hid (∀ k, k < (readyL l done).length → (readyL l done).getD k 0 < l.length) := fun k hk => by
      have hm : (readyL l done).getD k 0 ∈ readyL l done := by simp [List.getD, hk]
      exact (readyTo_mem.1 hm).1
    have HNG : Hid (∀ k, k < (readyL l done).length → (nI (readyL l done)).getD k 0 = (((readyL l done).getD k 0 : Nat) : Int)) := fun k hk => by
      unfold nI
      simp [List.getD, hk]
    have HTK : Hid (∀ k, k < (readyL l done).length → onN l.length ((readyL l done).take (k + 1)) = (onN l.length ((readyL l done).take k)).set ((readyL l done).getD k 0) true) := fun k hk => onN_take l.length (readyL l done) k hk
    have HON : Hid (∀ i, i < l.length → (onN l.length (readyL l done)).getD i false = readyX l done i) := fun i hi => onN_ready l done i hi
    have HAP : Hid (∀ k n, k < n → readyX l done k = true → readyX l done n = true → clashX (gX l k) (gX l n) = false) := fun k n h h1 h2 => ready_apart h1 h2 h
    have HFS : Hid (∀ n k, freeTo l done n (k + 1) = (freeTo l done n k && (dn done k || !clashX (gX l k) (gX l n)))) := freeTo_step l done
    have HRX : Hid (∀ n, readyX l done n = (!dn done n && freeTo l done n n)) := fun n => rfl
    have HUR : Hid (((undone done l.length : Int) == 0) = (((nI (readyL l done)).length : Int) == 0)) := undone_ready l done
    have HUL : Hid (∀ n, undone done n ≤ n) := undone_le done
    have HUS : Hid (∀ n, undone done (n + 1) = undone done n + (if dn done n = true then 0 else 1)) := fun n => rfl
    have hRl : (nI (readyL l done)).length = (readyL l done).length := nI_len _
    have hR8 : (readyL l done).length ≤ 8 := Nat.le_trans (readyTo_len l done l.length) hl8
    rw [hRl] at CR HUR
    clear hE hC hd eR hRl
    generalize readyL l done = rl at *
    go_enter Try.func7, Try.ntmps7
    go_wp2_with fail
    refine CR.out.mono ?_
    clear CR
    rintro e w1 ⟨ra0, rc0, rfl, hR, b1⟩
    have B1 : Hid (Below w.heap.size w w1) := b1
    clear b1
    go_wp2_with (first | (at_make; refine wpList_make_full _ rfl _ _ 55 rfl w1.heap.size 4 i0 (.bool false) 1 Try.underlying55 hi hz0 hz1 .i64 .i64 _ _ l.length rfl rfl rfl rfl (by rw [hz2]; omega) (by unfold maxLen; omega) (by simp) ?_; intro w2 hown hgrow) | fail)
    rw [HM.out] at hown
    have U2 := Below.grown (Below.refl w1.heap.size w1) hgrow (by omega) (fun j hj => by cases hj)
    have hg1 : w1.heap.size < w2.heap.size := by
      have := (hown.lt w1.heap.size (by simp [Value.ownBlock])).2
      exact this
    have hm0 : Hid (w2.ownsRow w1.heap.size 4 1 (.slice (some ⟨w1.heap.size, 0, none⟩) l.length l.length) l.length ((onN l.length (rl.take 0)).map Value.bool)) := hown
    have hR2 : Hid (IsInts w2 ra0 (nI rl)) := hR.out.below U2
    have hRb : Hid (∀ ad, ra0 = some ad → 0 < rl.length → ad.block < w1.heap.size) := fun ad e h0 => by
      obtain ⟨b, off, ha, hlt, _⟩ := hR.out 0 (by rw [nI_len]; exact h0)
      rw [e] at ha
      injection ha with ha
      rw [ha]
      exact hlt
    have BW2 : Hid (Below w.heap.size w w2) := grow_trans B1.out U2
    have hwg : w.heap.size ≤ w1.heap.size := B1.out.size
    clear hown hgrow HM U2 hR
    generalize w1.heap.size = g at *
    go_wp2
    go_loopw [8] (fun i wr => ∃ k : Nat, k ≤ rl.length ∧ i = .int .i64 k ∧ Hid (wr.ownsRow g 4 1 (.slice (some ⟨g, 0, none⟩) l.length l.length) l.length ((onN l.length (rl.take k)).map Value.bool)) ∧ Hid (w2.grownBy wr (some g))) (fun i _ => rl.length - (intOf i).toNat)
    case atStart => exact ⟨0, Nat.zero_le _, rfl, hm0, World.grownBy.refl _ _⟩
    case round =>
      obtain ⟨k, hk, rfl, hown, hgr⟩ := hrel
      clear hm0
      by_cases hlt : k < rl.length
      · obtain ⟨b, off, rfl, _, c00⟩ := hR2.out k (by rw [nI_len]; exact hlt)
        have hbg : b ≠ g := by
          have := hRb.out _ rfl (by omega)
          simp only at this
          omega
        have d0 : wr.cell? ⟨b, off + k, none⟩ = some (.int .i64 ((rl.getD k 0 : Nat) : Int)) := by
          rw [← HNG.out k hlt]
          exact hgr.out.cell c00 (by simpa using hbg)
        have hlt2 := HRL.out k hlt
        have HT := HTK.out k hlt
        have hMl : (onN l.length (rl.take k)).length = l.length := onN_len _ _
        generalize rl.getD k 0 = y at *
        have q3 := bool_cell hown.out y (by rw [hMl]; exact hlt2)
        have q4 : wr.frozen? ⟨g, y, none⟩ = false := hown.out.frozenAt y
        have R1 : Hid ((wr.setCell ⟨g, y, none⟩ (.bool true)).ownsRow g 4 1 (.slice (some ⟨g, 0, none⟩) l.length l.length) l.length ((onN l.length (rl.take (k + 1))).map Value.bool)) := by
          have h := (hown.out.stored y (.bool true)).1
          rw [HT, List.map_set]
          exact h
        have R2 : Hid (w2.grownBy (wr.setCell ⟨g, y, none⟩ (.bool true)) (some g)) := hgr.out.trans (grown_one _ g y _)
        have i1 : (0 : Int) ≤ (k : Int) := by omega
        have i2 : (k : Int) < (rl.length : Int) := by omega
        have i3 : (0 : Int) ≤ (y : Int) := by omega
        have i4 : (y : Int) < (l.length : Int) := by omega
        have i5 : ¬ (y : Int) < 0 := by omega
        have i6 : ¬ (l.length : Int) ≤ (y : Int) := by omega
        generalize (onN l.length (rl.take k)).getD y false = old at *
        clear hown hgr c00 HT hMl
        go_wp2
        go_roundw
        case rel => exact ⟨k + 1, by omega, by go_num, R1, R2⟩
        case measure => simp [intOf]; omega
      · have hkk : k = rl.length := by omega
        have hIs : Hid (IsBools wr (some ⟨g, 0, none⟩) (onN l.length rl)) := by
          have h := hown.out
          rw [hkk, List.take_of_length_le (Nat.le_refl _)] at h
          exact bools_of_owns h
        have BV : Hid (Below w.heap.size w wr) := BW2.out.trans (Below.grown (Below.refl w.heap.size w2) hgr.out (by omega) (fun j hj => by injection hj with hj; omega))
        clear hown hgr hR2 hRb BW2 HTK HNG HRL hkk
        go_wp2
        go_loopw [9, 10, 11, 12, 13, 14] (fun v i _ _ _ _ wq => ∃ n : Nat, n ≤ l.length ∧ i = .int .i64 n ∧ v = .int .i64 (undone done n) ∧ Hid (Below wr.heap.size wr wq)) (fun _ i _ _ _ _ _ => l.length - (intOf i).toNat)
        case atStart => exact ⟨0, Nat.zero_le _, rfl, rfl, Below.refl _ _⟩
        case round =>
          obtain ⟨n, hn, rfl, rfl, hB⟩ := hrel
          have BW : Hid (Below w.heap.size w wr) := grow_trans BV.out hB.out
          by_cases hlt : n < l.length
          · obtain ⟨b2, off2, rfl, _, e3⟩ := HB.out n (by rw [HD.out]; exact hlt)
            have d3 : wr.cell? ⟨b2, off2 + n, none⟩ = some (.bool (dn done n)) := ext_cell BW.out e3
            have j1 : (0 : Int) ≤ (n : Int) := by omega
            have j2 : (n : Int) < (l.length : Int) := by omega
            have j3 : (n : Int) < (done.length : Int) := by have := HD.out; omega
            have hul := HUL.out n
            clear e3
            cases hdd : dn done n with
            | true =>
              have HU : Hid (undone done (n + 1) = undone done n) := by show _ = _; rw [HUS.out n, if_pos hdd]; rfl
              have HDD : Hid (dn done n = true) := hdd
              rw [hdd] at d3
              clear hdd
              go_wp2
              clear d3
              go_loopw [11, 12, 13, 14] (fun v i _ _ wz => ∃ k : Nat, k ≤ n ∧ i = .int .i64 k ∧ v = .bool (false) ∧ Hid (Below wr.heap.size wr wz)) (fun _ i _ _ _ => n - (intOf i).toNat)
              case atStart => exact ⟨0, Nat.zero_le _, rfl, rfl, Below.refl _ _⟩
              case round =>
                obtain ⟨k, hk, rfl, rfl, hBz⟩ := hrel
                have BZ : Hid (Below w.heap.size w wr) := grow_trans BW.out hBz.out
                obtain ⟨bg, og, hge, _, e5⟩ := hIs.out n (by rw [onN_len]; exact hlt)
                injection hge with hge
                injection hge with hg1' hg2' _
                subst hg1' hg2'
                rw [HON.out n hlt] at e5
                have k1 := ext_cell hBz.out (ext_cell hB.out e5)
                rw [Nat.zero_add] at k1
                clear e5
                by_cases hlt2 : k < n
                · obtain ⟨b, off, rfl, _, e0, e1, e2, hx⟩ := HL.out k (by omega)
                  obtain ⟨b', off', hbe, _, f0, f1, f2, hy⟩ := HL.out n hlt
                  injection hbe with hbe
                  injection hbe with q1 q2 _
                  subst q1 q2
                  obtain ⟨b3, off3, hb3, _, e4⟩ := HB.out k (by rw [HD.out]; omega)
                  injection hb3 with hb3
                  injection hb3 with q3 q4 _
                  subst q3 q4
                  obtain ⟨bk, ok, hke, _, e6⟩ := hIs.out k (by rw [onN_len]; omega)
                  injection hke with hke
                  injection hke with q5 q6 _
                  subst q5 q6
                  rw [HON.out k (by omega)] at e6
                  have k0 := ext_cell hBz.out (ext_cell hB.out e6)
                  rw [Nat.zero_add] at k0
                  have d0 := ext_cell BZ.out e0
                  have d1 := ext_cell BZ.out e1
                  have d2 := ext_cell BZ.out e2
                  have d3' := ext_cell BZ.out f0
                  have d4 := ext_cell BZ.out f1
                  have d5 := ext_cell BZ.out f2
                  have d6 : wr.cell? ⟨b2, off2 + k, none⟩ = some (.bool (dn done k)) := ext_cell BZ.out e4
                  have HF : Hid (freeTo l done n (k + 1) = (freeTo l done n k && (dn done k || !clashX (gX l k) (gX l n)))) := HFS.out n k
                  have HFF : Hid (false = false) := rfl
                  have HA : Hid (readyX l done k = true → readyX l done n = true → clashX (gX l k) (gX l n) = false) := HAP.out k n hlt2
                  have C11 : Hid (∀ w', Below wr.heap.size wr w' → Calls Try.prog 11 #[.agg #[.slice (l.getD k x0).ra (l.getD k x0).rs.length (l.getD k x0).rc, .slice (l.getD k x0).ga (l.getD k x0).gs.length (l.getD k x0).gc, .slice (l.getD k x0).sa (l.getD k x0).ss.length (l.getD k x0).sc], .agg #[.slice (l.getD n x0).ra (l.getD n x0).rs.length (l.getD n x0).rc, .slice (l.getD n x0).ga (l.getD n x0).gs.length (l.getD n x0).gc, .slice (l.getD n x0).sa (l.getD n x0).ss.length (l.getD n x0).sc]] w' fun e w'' => e = .returned (.tuple #[.bool (clashX (gX l k) (gX l n)), .int .i64 0]) ∧ Below w'.heap.size w' w'') := fun w' h => clash_ok _ _ w' ((hx.below BZ.out).below h) ((hy.below BZ.out).below h) (chkL_at0 HC.out k (by omega)) (chkL_at0 HC.out n hlt)
                  clear e0 e1 e2 f0 f1 f2 e4 e6 hx hy
                  generalize clashX (gX l k) (gX l n) = c at *
                  generalize readyX l done k = rk at *
                  generalize readyX l done n = rn at *
                  generalize dn done k = dk at *
                  generalize freeTo l done n k = fk at *
                  generalize l.getD k x0 = x at *
                  generalize l.getD n x0 = y at *
                  obtain ⟨ra, ga, sa, rc, gc, sc, rs, gs, ss⟩ := x
                  obtain ⟨ra', ga', sa', rc', gc', sc', rs', gs', ss'⟩ := y
                  simp only at d0 d1 d2 d3' d4 d5 C11
                  have KS : Hid (∀ w', Below wr.heap.size wr w' → Below wr.heap.size wr w' ∧ w'.cell? ⟨b, off + k * 3, none⟩ = some (.slice ra rs.length rc) ∧ w'.cell? ⟨b, off + k * 3 + 1, none⟩ = some (.slice ga gs.length gc) ∧ w'.cell? ⟨b, off + k * 3 + 2, none⟩ = some (.slice sa ss.length sc) ∧ w'.cell? ⟨b, off + n * 3, none⟩ = some (.slice ra' rs'.length rc') ∧ w'.cell? ⟨b, off + n * 3 + 1, none⟩ = some (.slice ga' gs'.length gc') ∧ w'.cell? ⟨b, off + n * 3 + 2, none⟩ = some (.slice sa' ss'.length sc')) := fun w' h => ⟨h, ext_cell h d0, ext_cell h d1, ext_cell h d2, ext_cell h d3', ext_cell h d4, ext_cell h d5⟩
                  have i1 : (0 : Int) ≤ (n : Int) := by omega
                  have i2 : (n : Int) < (l.length : Int) := by omega
                  have i3 : (0 : Int) ≤ (k : Int) := by omega
                  have i4 : (k : Int) < (l.length : Int) := by omega
                  have i5 : (k : Int) < (done.length : Int) := by have := HD.out; omega
                  have i6 : (k : Int) < (n : Int) := by omega
                  go_upto_region 23 with fail
                  go_region_held3 (fun w' => Below wr.heap.size wr w' ∧ w'.cell? ⟨b, off + k * 3, none⟩ = some (.slice ra rs.length rc) ∧ w'.cell? ⟨b, off + k * 3 + 1, none⟩ = some (.slice ga gs.length gc) ∧ w'.cell? ⟨b, off + k * 3 + 2, none⟩ = some (.slice sa ss.length sc) ∧ w'.cell? ⟨b, off + n * 3, none⟩ = some (.slice ra' rs'.length rc') ∧ w'.cell? ⟨b, off + n * 3 + 1, none⟩ = some (.slice ga' gs'.length gc') ∧ w'.cell? ⟨b, off + n * 3 + 2, none⟩ = some (.slice sa' ss'.length sc')) ((refine KS.out _ ?_; go_split_ands; repeat (first | assumption | exact Below.refl _ _ | refine grow_drew ?_ | refine grow_alloc ?_ _ | refine grow_trans ?_ (by assumption))))
                    (first
                      | (go_at_call 11; refine (C11.out _ ?_).mono ?_; (go_split_ands; assumption); rintro e wa ⟨rfl, hba⟩))
                  all_goals (
                    go_split_ands
                    have BA : Below wr.heap.size wr wa := by assumption
                    have k0a := ext_cell BA k0
                    have k1a := ext_cell BA k1
                    have d6a := ext_cell BA d6
                    clear k0 k1 d6
                    have HBA : Hid _ := grow_trans hBz.out BA
                    clear KS C11 hba BA d0 d1 d2 d3' d4 d5
                    cases c with
                    | false =>
                      clear HA
                      go_wp2
                      go_roundw
                      case rel => exact ⟨k + 1, by omega, by go_num, by first | rfl | (rw [HF.out]; rfl), HBA⟩
                      case measure => simp [intOf]; omega
                    | true =>
                      cases rk with
                      | false =>
                        clear HA
                        go_wp2
                        go_roundw
                        case rel => exact ⟨k + 1, by omega, by go_num, by first | rfl | (rw [HF.out]; rfl), HBA⟩
                        case measure => simp [intOf]; omega
                      | true =>
                        cases rn with
                        | true => exact absurd (HA.out rfl rfl) (by decide)
                        | false =>
                          clear HA
                          go_wp2
                          go_roundw
                          case rel => exact ⟨k + 1, by omega, by go_num, by first | rfl | (rw [HF.out]; rfl), HBA⟩
                          case measure => simp [intOf]; omega
              )
                · have hkk : k = n := by omega
                  have HR : Hid (readyX l done n = false) := by
                    show _ = _
                    rw [HRX.out n, HDD.out]
                    rfl
                  rw [HR.out] at k1
                  have i1 : (0 : Int) ≤ (n : Int) := by omega
                  have i2 : (n : Int) < (l.length : Int) := by omega
                  have i6 : ¬ (k : Int) < (n : Int) := by omega
                  
                  
                  have hnn : (false != false) = false := by simp
                  have BZ2 : Hid _ := grow_trans hB.out hBz.out
                  clear hkk
                  go_wp2
                  go_roundw
                  case rel => exact ⟨n + 1, by omega, by go_num, by rw [HU.out], BZ2⟩
                  case measure => simp [intOf]; omega
            | false =>
              have HU : Hid (((undone done (n + 1) : Nat) : Int) = (undone done n : Int) + 1) := by show _ = _; rw [HUS.out n, if_neg (by rw [hdd]; decide)]; rfl
              have HDD : Hid (dn done n = false) := hdd
              have hF0 : freeTo l done n 0 = true := rfl
              rw [hdd] at d3
              clear hdd
              go_wp2
              clear d3
              go_loopw [11, 12, 13, 14] (fun v i _ _ wz => ∃ k : Nat, k ≤ n ∧ i = .int .i64 k ∧ v = .bool (freeTo l done n k) ∧ Hid (Below wr.heap.size wr wz)) (fun _ i _ _ _ => n - (intOf i).toNat)
              case atStart => exact ⟨0, Nat.zero_le _, rfl, rfl, Below.refl _ _⟩
              case round =>
                obtain ⟨k, hk, rfl, rfl, hBz⟩ := hrel
                have BZ : Hid (Below w.heap.size w wr) := grow_trans BW.out hBz.out
                obtain ⟨bg, og, hge, _, e5⟩ := hIs.out n (by rw [onN_len]; exact hlt)
                injection hge with hge
                injection hge with hg1' hg2' _
                subst hg1' hg2'
                rw [HON.out n hlt] at e5
                have k1 := ext_cell hBz.out (ext_cell hB.out e5)
                rw [Nat.zero_add] at k1
                clear e5
                by_cases hlt2 : k < n
                · obtain ⟨b, off, rfl, _, e0, e1, e2, hx⟩ := HL.out k (by omega)
                  obtain ⟨b', off', hbe, _, f0, f1, f2, hy⟩ := HL.out n hlt
                  injection hbe with hbe
                  injection hbe with q1 q2 _
                  subst q1 q2
                  obtain ⟨b3, off3, hb3, _, e4⟩ := HB.out k (by rw [HD.out]; omega)
                  injection hb3 with hb3
                  injection hb3 with q3 q4 _
                  subst q3 q4
                  obtain ⟨bk, ok, hke, _, e6⟩ := hIs.out k (by rw [onN_len]; omega)
                  injection hke with hke
                  injection hke with q5 q6 _
                  subst q5 q6
                  rw [HON.out k (by omega)] at e6
                  have k0 := ext_cell hBz.out (ext_cell hB.out e6)
                  rw [Nat.zero_add] at k0
                  have d0 := ext_cell BZ.out e0
                  have d1 := ext_cell BZ.out e1
                  have d2 := ext_cell BZ.out e2
                  have d3' := ext_cell BZ.out f0
                  have d4 := ext_cell BZ.out f1
                  have d5 := ext_cell BZ.out f2
                  have d6 : wr.cell? ⟨b2, off2 + k, none⟩ = some (.bool (dn done k)) := ext_cell BZ.out e4
                  have HF : Hid (freeTo l done n (k + 1) = (freeTo l done n k && (dn done k || !clashX (gX l k) (gX l n)))) := HFS.out n k
                  have HFF : Hid (false = false) := rfl
                  have HA : Hid (readyX l done k = true → readyX l done n = true → clashX (gX l k) (gX l n) = false) := HAP.out k n hlt2
                  have C11 : Hid (∀ w', Below wr.heap.size wr w' → Calls Try.prog 11 #[.agg #[.slice (l.getD k x0).ra (l.getD k x0).rs.length (l.getD k x0).rc, .slice (l.getD k x0).ga (l.getD k x0).gs.length (l.getD k x0).gc, .slice (l.getD k x0).sa (l.getD k x0).ss.length (l.getD k x0).sc], .agg #[.slice (l.getD n x0).ra (l.getD n x0).rs.length (l.getD n x0).rc, .slice (l.getD n x0).ga (l.getD n x0).gs.length (l.getD n x0).gc, .slice (l.getD n x0).sa (l.getD n x0).ss.length (l.getD n x0).sc]] w' fun e w'' => e = .returned (.tuple #[.bool (clashX (gX l k) (gX l n)), .int .i64 0]) ∧ Below w'.heap.size w' w'') := fun w' h => clash_ok _ _ w' ((hx.below BZ.out).below h) ((hy.below BZ.out).below h) (chkL_at0 HC.out k (by omega)) (chkL_at0 HC.out n hlt)
                  clear e0 e1 e2 f0 f1 f2 e4 e6 hx hy
                  generalize clashX (gX l k) (gX l n) = c at *
                  generalize readyX l done k = rk at *
                  generalize readyX l done n = rn at *
                  generalize dn done k = dk at *
                  generalize freeTo l done n k = fk at *
                  generalize l.getD k x0 = x at *
                  generalize l.getD n x0 = y at *
                  obtain ⟨ra, ga, sa, rc, gc, sc, rs, gs, ss⟩ := x
                  obtain ⟨ra', ga', sa', rc', gc', sc', rs', gs', ss'⟩ := y
                  simp only at d0 d1 d2 d3' d4 d5 C11
                  have KS : Hid (∀ w', Below wr.heap.size wr w' → Below wr.heap.size wr w' ∧ w'.cell? ⟨b, off + k * 3, none⟩ = some (.slice ra rs.length rc) ∧ w'.cell? ⟨b, off + k * 3 + 1, none⟩ = some (.slice ga gs.length gc) ∧ w'.cell? ⟨b, off + k * 3 + 2, none⟩ = some (.slice sa ss.length sc) ∧ w'.cell? ⟨b, off + n * 3, none⟩ = some (.slice ra' rs'.length rc') ∧ w'.cell? ⟨b, off + n * 3 + 1, none⟩ = some (.slice ga' gs'.length gc') ∧ w'.cell? ⟨b, off + n * 3 + 2, none⟩ = some (.slice sa' ss'.length sc')) := fun w' h => ⟨h, ext_cell h d0, ext_cell h d1, ext_cell h d2, ext_cell h d3', ext_cell h d4, ext_cell h d5⟩
                  have i1 : (0 : Int) ≤ (n : Int) := by omega
                  have i2 : (n : Int) < (l.length : Int) := by omega
                  have i3 : (0 : Int) ≤ (k : Int) := by omega
                  have i4 : (k : Int) < (l.length : Int) := by omega
                  have i5 : (k : Int) < (done.length : Int) := by have := HD.out; omega
                  have i6 : (k : Int) < (n : Int) := by omega
                  go_upto_region 23 with fail
                  go_region_held3 (fun w' => Below wr.heap.size wr w' ∧ w'.cell? ⟨b, off + k * 3, none⟩ = some (.slice ra rs.length rc) ∧ w'.cell? ⟨b, off + k * 3 + 1, none⟩ = some (.slice ga gs.length gc) ∧ w'.cell? ⟨b, off + k * 3 + 2, none⟩ = some (.slice sa ss.length sc) ∧ w'.cell? ⟨b, off + n * 3, none⟩ = some (.slice ra' rs'.length rc') ∧ w'.cell? ⟨b, off + n * 3 + 1, none⟩ = some (.slice ga' gs'.length gc') ∧ w'.cell? ⟨b, off + n * 3 + 2, none⟩ = some (.slice sa' ss'.length sc')) ((refine KS.out _ ?_; go_split_ands; repeat (first | assumption | exact Below.refl _ _ | refine grow_drew ?_ | refine grow_alloc ?_ _ | refine grow_trans ?_ (by assumption))))
                    (first
                      | (go_at_call 11; refine (C11.out _ ?_).mono ?_; (go_split_ands; assumption); rintro e wa ⟨rfl, hba⟩))
                  all_goals (
                    go_split_ands
                    have BA : Below wr.heap.size wr wa := by assumption
                    have k0a := ext_cell BA k0
                    have k1a := ext_cell BA k1
                    have d6a := ext_cell BA d6
                    clear k0 k1 d6
                    have HBA : Hid _ := grow_trans hBz.out BA
                    clear KS C11 hba BA d0 d1 d2 d3' d4 d5
                    cases c with
                    | false =>
                      clear HA
                      cases fk with
                      | false =>
                        go_wp2
                        go_roundw
                        case rel => exact ⟨k + 1, by omega, by go_num, by first | rfl | (rw [HF.out]; rfl), HBA⟩
                        case measure => simp [intOf]; omega
                      | true =>
                        cases dk with
                        | true =>
                          go_wp2
                          go_roundw
                          case rel => exact ⟨k + 1, by omega, by go_num, by first | rfl | (rw [HF.out]; rfl), HBA⟩
                          case measure => simp [intOf]; omega
                        | false =>
                          go_wp2
                          go_roundw
                          case rel => exact ⟨k + 1, by omega, by go_num, by first | rfl | (rw [HF.out]; rfl), HBA⟩
                          case measure => simp [intOf]; omega
                    | true =>
                      cases rk with
                      | false =>
                        clear HA
                        cases fk with
                        | false =>
                          go_wp2
                          go_roundw
                          case rel => exact ⟨k + 1, by omega, by go_num, by first | rfl | (rw [HF.out]; rfl), HBA⟩
                          case measure => simp [intOf]; omega
                        | true =>
                          cases dk with
                          | true =>
                            go_wp2
                            go_roundw
                            case rel => exact ⟨k + 1, by omega, by go_num, by first | rfl | (rw [HF.out]; rfl), HBA⟩
                            case measure => simp [intOf]; omega
                          | false =>
                            go_wp2
                            go_roundw
                            case rel => exact ⟨k + 1, by omega, by go_num, by first | rfl | (rw [HF.out]; rfl), HBA⟩
                            case measure => simp [intOf]; omega
                      | true =>
                        cases rn with
                        | true => exact absurd (HA.out rfl rfl) (by decide)
                        | false =>
                          clear HA
                          cases fk with
                          | false =>
                            go_wp2
                            go_roundw
                            case rel => exact ⟨k + 1, by omega, by go_num, by first | rfl | (rw [HF.out]; rfl), HBA⟩
                            case measure => simp [intOf]; omega
                          | true =>
                            cases dk with
                            | true =>
                              go_wp2
                              go_roundw
                              case rel => exact ⟨k + 1, by omega, by go_num, by first | rfl | (rw [HF.out]; rfl), HBA⟩
                              case measure => simp [intOf]; omega
                            | false =>
                              go_wp2
                              go_roundw
                              case rel => exact ⟨k + 1, by omega, by go_num, by first | rfl | (rw [HF.out]; rfl), HBA⟩
                              case measure => simp [intOf]; omega
              )
                · have hkk : k = n := by omega
                  have HR : Hid (readyX l done n = freeTo l done n n) := by
                    show _ = _
                    rw [HRX.out n, HDD.out]
                    rfl
                  rw [HR.out] at k1
                  have i1 : (0 : Int) ≤ (n : Int) := by omega
                  have i2 : (n : Int) < (l.length : Int) := by omega
                  have i6 : ¬ (k : Int) < (n : Int) := by omega
                  rw [hkk]
                  generalize freeTo l done n n = fn at *
                  have hnn : (fn != fn) = false := by simp
                  have BZ2 : Hid _ := grow_trans hB.out hBz.out
                  clear hkk
                  go_wp2
                  go_roundw
                  case rel => exact ⟨n + 1, by omega, by go_num, by rw [HU.out], BZ2⟩
                  case measure => simp [intOf]; omega
          · have hnn : n = l.length := by omega
            subst hnn
            have BVR : Hid (Below w.heap.size w wr) := BW
            clear hIs hB BW BV
            go_wp2_with fail
            refine (locksBegun_any _).mono ?_
            rintro e v1 ⟨rfl, c1⟩
            have R : Hid (Below w.heap.size w v1) := grow_trans BVR.out c1
            clear c1 BVR
            have hur := HUR.out

            generalize undone done l.length = ud at *
            generalize rl.length = rn at *
            cases hrz : ((rn : Int) == 0) with
            | true =>
              rw [hrz] at hur
              go_wp2
              go_ret
              exact ⟨by first | rfl | simp, R.out⟩
            | false =>
              rw [hrz] at hur
              go_wp2
              go_ret
              exact ⟨by first | rfl | simp, R.out⟩
  · have hbf : (rdE l done != 0) = true := by simpa using hE
    clear hE
    go_enter Try.func7, Try.ntmps7
    go_wp2_with fail
    refine CR.out.mono ?_
    clear CR
    rintro e w1 ⟨ra0, rc0, rfl, hR, b1⟩
    have B1 : Hid (Below w.heap.size w w1) := b1
    clear b1
    go_wp2_with fail
    refine (locksBegun_any _).mono ?_
    rintro e v1 ⟨rfl, c1⟩
    have R : Hid (Below w.heap.size w v1) := grow_trans B1.out c1
    clear c1 B1
    go_wp2
    go_ret
    exact ⟨rfl, R.out⟩
end Go.Proofs.Ytikolifbljnokaa
