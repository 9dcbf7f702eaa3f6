/-
  LocksMore walked: when one that is ready is done, all others that were ready still are.
  Conditions: the arguments can be read.
-/
import Derived.Test.YtikolifbljnokaaLocksH
import Derived.Test.YtikolifbljnokaaSeqZ
import Derived.OwnWalk
import Derived.Laws.OwnMore
import Derived.WalkKit
import Derived.WalkSpells
import Derived.WalkLawsBesides
import Derived.ProofKit
import Derived.Deep.RegionHeld3
import Derived.BigQuiet
import Derived.Deep.AppendLies
namespace Go.Proofs.Ytikolifbljnokaa
open Go.RowKit

theorem contains_take (M : List Int) (k : Nat) (h : k < M.length) (x : Int) : (M.take (k + 1)).contains x = ((M.take k).contains x || (M.getD k 0 == x)) := by
  have e : M.getD k 0 = M[k] := by simp [List.getD, h]
  rw [e, List.take_succ_eq_append_getElem h, Bool.eq_iff_iff, Bool.or_eq_true, List.contains_iff_mem, List.contains_iff_mem, List.mem_append, List.mem_singleton, beq_iff_eq]
  exact ⟨fun h => h.imp id Eq.symm, fun h => h.imp id Eq.symm⟩
theorem ready_inc (l : List TxA) (done : List Bool) : (readyL l done).Pairwise (· < ·) := (List.pairwise_lt_range (n := l.length)).filter _
theorem more_math {l : List TxA} {done : List Bool} (hE : rdE l done = 0) (j : Nat) (hj : j < (nI (readyL l done)).length) :
    ∃ y : Nat, (nI (readyL l done)).getD j 0 = (y : Int) ∧ y < l.length ∧ rdE l (done.set y true) = 0 ∧ (∀ k, k < (nI (readyL l (done.set y true))).length → ((nI (readyL l (done.set y true))).getD k 0 == (y : Int)) = false) ∧ ∀ i, i < (nI (readyL l done)).length → ¬ i = j → (nI (readyL l (done.set y true))).contains ((nI (readyL l done)).getD i 0) = true := by
  obtain ⟨hC, hd⟩ := rdE_zero hE
  rw [nI_len] at hj
  have hget : ∀ (L : List Nat) (i : Nat) (h : i < L.length), (nI L).getD i 0 = ((L[i] : Nat) : Int) := fun L i h => by
    unfold nI
    simp [List.getD, h]
  have hm : (readyL l done)[j] ∈ readyL l done := List.getElem_mem hj
  obtain ⟨hy, hry⟩ := readyTo_mem.1 hm
  refine ⟨(readyL l done)[j], hget _ _ hj, hy, ?_, ?_, ?_⟩
  · unfold rdE dE at hE ⊢
    rw [List.length_set]
    exact hE
  · intro k hk
    rw [nI_len] at hk
    rw [hget _ _ hk]
    have hmk : (readyL l (done.set (readyL l done)[j] true))[k] ∈ readyL l (done.set (readyL l done)[j] true) := List.getElem_mem hk
    have hrk := (readyTo_mem.1 hmk).2
    simp only [beq_eq_false_iff_ne, ne_eq]
    intro e
    have e' := Int.ofNat.inj e
    rw [e', ready_gone (by rw [hd]; exact hy)] at hrk
    cases hrk
  · intro i hi hij
    rw [nI_len] at hi
    rw [hget _ _ hi]
    have hne : (readyL l done)[i] ≠ (readyL l done)[j] := by
      have hp := List.pairwise_iff_getElem.1 (ready_inc l done)
      rcases Nat.lt_or_gt_of_ne hij with h | h
      · have := hp i j hi hj h; omega
      · have := hp j i hj hi h; omega
    obtain ⟨h1, h2⟩ := readyTo_mem.1 (List.getElem_mem hi)
    have h3 := ready_stays (by rw [hd]; exact hy) h2 hne
    have h4 : (readyL l done)[i] ∈ readyL l (done.set (readyL l done)[j] true) := readyTo_mem.2 ⟨h1, h3⟩
    rw [List.contains_iff_mem]
    exact List.mem_map.2 ⟨_, h4, rfl⟩
theorem bools_news {w : World} {ad : Addr} {bs : List Bool} (h : IsBools w (some ad) bs) : ∀ j u, (bs.map Value.bool)[j]? = some u → w.cell? (ad.add j) = some u := by
  intro j u hj
  have hlt : j < bs.length := by
    have := (List.getElem?_eq_some_iff.1 hj).1
    simpa using this
  obtain ⟨b, off, ha, hb, hc⟩ := h j hlt
  injection ha with ha
  subst ha
  rw [add_none, hc]
  simp [hlt] at hj
  simp [List.getD, hlt, hj]
theorem bools_oneCell (bs : List Bool) : ∀ u ∈ bs.map Value.bool, u.oneCell' = true := by
  intro u hu
  obtain ⟨_, _, rfl⟩ := List.mem_map.1 hu
  rfl

variable (la : Option Addr) (lc : Nat) (l : List TxA) (ba : Option Addr) (bc : Nat) (done : List Bool)

set_option maxRecDepth 100000 in
set_option maxHeartbeats 8000000 in
theorem locksMore_walk (n : Int) (w : World) (hl : IsTxs w la l) (hb : IsBools w ba done) (hn : (Lit.int .i64 n).wf = true) :
    Calls Try.prog 8 #[.slice la l.length lc, .slice ba done.length bc, .int .i64 n] w fun e w' => e = .returned (.bool true) ∧ Below w.heap.size w w' := by
  obtain ⟨i0, hi, hz0, hz1, hz2⟩ := info_parts Try.info4
  have HL : Hid (IsTxs w la l) := hl
  have HB : Hid (IsBools w ba done) := hb
  have CR : Hid (Calls Try.prog 26 #[.slice la l.length lc, .slice ba done.length bc] w fun e w' => ∃ a c, e = .returned (.tuple #[.slice a (nI (rdL l done)).length c, .int .i64 (rdE l done)]) ∧ Hid (IsInts w' a (nI (rdL l done))) ∧ Below w.heap.size w w') := ready_any la lc l ba bc done w hl hb
  clear hl hb
  by_cases hE : rdE l done = 0
  · obtain ⟨hC, hd⟩ := rdE_zero hE
    have hl8 := chkL_small hC
    have eR : rdL l done = readyL l done := if_pos hE
    rw [eR, hE] at CR
    have HD : Hid (done.length = l.length) := hd
    have HMM : Hid (∀ j, j < (nI (readyL l done)).length → ∃ y : Nat, (nI (readyL l done)).getD j 0 = (y : Int) ∧ y < l.length ∧ rdE l (done.set y true) = 0 ∧ (∀ k, k < (nI (readyL l (done.set y true))).length → ((nI (readyL l (done.set y true))).getD k 0 == (y : Int)) = false) ∧ ∀ i, i < (nI (readyL l done)).length → ¬ i = j → (nI (readyL l (done.set y true))).contains ((nI (readyL l done)).getD i 0) = true) := fun j hj => more_math hE j hj
    have hR8 : (nI (readyL l done)).length ≤ 8 := by rw [nI_len]; exact Nat.le_trans (readyTo_len l done l.length) hl8
    clear hE hC hd eR
    generalize nI (readyL l done) = R at *
    by_cases hR0 : R.length = 0
    · clear HMM
      have hRb : ((R.length : Int) == 0) = true := by rw [hR0]; rfl
      clear hR0
      go_enter Try.func8, Try.ntmps8
      go_wp2_with fail
      refine CR.out.mono ?_
      clear CR
      rintro e w1 ⟨ra0, rc0, rfl, hR, b1⟩
      have B1 : Hid (Below w.heap.size w w1) := b1
      clear b1
      go_wp2_with fail
      refine (locksBegun_any _).mono ?_
      rintro e v1 ⟨rfl, c1⟩
      have RR : Hid (Below w.heap.size w v1) := grow_trans B1.out c1
      clear c1 B1
      go_wp2
      go_ret
      exact ⟨rfl, RR.out⟩
    · have hRb : ((R.length : Int) == 0) = false := by simpa using hR0
      go_enter Try.func8, Try.ntmps8
      go_wp2_with fail
      refine CR.out.mono ?_
      clear CR
      rintro e w1 ⟨ra0, rc0, rfl, hR, b1⟩
      have B1 : Hid (Below w.heap.size w w1) := b1
      clear b1
      go_wp2_with fail
      refine (choose_any n R.length _ hn (by omega) (by omega)).mono ?_
      rintro e w1' ⟨j, hj, rfl, hww⟩
      have hww := hww.symm
      subst hww
      clear hn
      obtain ⟨y, hyj, hyl, hE2, hne, hin⟩ := HMM.out j hj
      have eR2 : rdL l (done.set y true) = readyL l (done.set y true) := if_pos hE2
      have CR2 : Hid (∀ (g c : Nat) (w' : World), Below w.heap.size w w' → IsBools w' (some ⟨g, 0, none⟩) (done.set y true) → Calls Try.prog 26 #[.slice la l.length lc, .slice (some ⟨g, 0, none⟩) done.length c] w' fun e w'' => ∃ a c, e = .returned (.tuple #[.slice a (nI (readyL l (done.set y true))).length c, .int .i64 0]) ∧ Hid (IsInts w'' a (nI (readyL l (done.set y true)))) ∧ Below w'.heap.size w' w'') := fun g c w' h1 h2 => by
        have h := ready_any la lc l (some ⟨g, 0, none⟩) c (done.set y true) w' (HL.out.below h1) h2
        rw [eR2, hE2, List.length_set] at h
        exact h
      have hM8 : (nI (readyL l (done.set y true))).length ≤ 8 := by rw [nI_len]; exact Nat.le_trans (readyTo_len l _ l.length) hl8
      have HNE : Hid (∀ k, k < (nI (readyL l (done.set y true))).length → ((nI (readyL l (done.set y true))).getD k 0 == (y : Int)) = false) := hne
      have HIN : Hid (∀ i, i < R.length → ¬ i = j → (nI (readyL l (done.set y true))).contains (R.getD i 0) = true) := hin
      generalize nI (readyL l (done.set y true)) = M at *
      clear hne hin hE2 eR2 HMM
      obtain ⟨rb, ro, hre, hrlt, cj⟩ := hR.out j hj
      subst hre
      have CJ : Hid (w1.cell? ⟨rb, ro + j, none⟩ = some (.int .i64 (y : Int))) := by rw [← hyj]; exact cj
      have dj := CJ.out
      have HRy : Hid (R.getD j 0 = (y : Int)) := hyj
      clear cj hyj hrlt
      have hyd : y < done.length := by have := HD.out; omega
      have hd8 : done.length ≤ 8 := by have := HD.out; omega
      obtain ⟨bb, bo, hbe, hblt, cb⟩ := HB.out y (by omega)
      subst hbe
      have HN : Hid (∀ (o : Obj), ∀ j u, (done.map Value.bool)[j]? = some u → (w1.alloc o).cell? ((⟨bb, bo, none⟩ : Addr).add j) = some u) := fun o => bools_news (HB.out.below (grow_alloc B1.out o))
      clear cb hblt HB
      have i1 : (0 : Int) ≤ (j : Int) := by omega
      have i2 : (j : Int) < (R.length : Int) := by omega
      have i3 : ¬ (y : Int) < 0 := by omega
      have i4 : ¬ (done.length : Int) ≤ (y : Int) := by omega
      have i5 : (0 : Int) ≤ (y : Int) := by omega
      have i6 : (y : Int) < (done.length : Int) := by omega
      go_upto_region 7 with fail
      go_upto_region 8 with (first
        | (at_builtin; refine wpList_append_own _ rfl _ _ 55 rfl w1.heap.size 4 i0 (.bool false) 1 1 Try.underlying55 hi hz0 hz1 hz2 rfl (by decide) _ 0 [] rfl (World.ownsRow_lit w1 #[] 0 (Nat.le_refl _) (by decide) rfl) ⟨bb, bo, none⟩ done.length bc (done.map Value.bool) rfl (by simp) (HN.out _) (bools_oneCell done) (by unfold maxLen; omega) (by omega) (by simp) ?_; intro v' w2 hown' hgrow _)
        | go_in)
      have RB : Hid (Below w1.heap.size w1 w2) := (grow_alloc (Below.refl _ _) _).grown hgrow (by simp) (fun j hj => by have hj' : some w1.heap.size = some j := hj; injection hj' with hj'; exact Nat.le_of_eq hj')
      simp only [Nat.zero_add, List.nil_append] at hown'
      clear hgrow HN
      obtain ⟨g, gc, rfl, hg1, hg2⟩ := hown'.form (by omega)
      have q3 := bool_cell hown' y (by omega)
      have q4 : w2.frozen? ⟨g, y, none⟩ = false := hown'.frozenAt y
      have R1 : Hid (IsBools (w2.setCell ⟨g, y, none⟩ (.bool true)) (some ⟨g, 0, none⟩) (done.set y true)) := by
        have h := (hown'.stored y (.bool true)).1
        rw [← List.map_set] at h
        exact bools_of_owns h
      have R2 : Hid (Below w1.heap.size w1 (w2.setCell ⟨g, y, none⟩ (.bool true))) := RB.out.trans (Below.grown (Below.refl w1.heap.size w2) (grown_one _ g y _) (by have := RB.out.size; omega) (fun j hj => by injection hj with hj; omega))
      have dj2 : w2.cell? ⟨rb, ro + j, none⟩ = some (.int .i64 (y : Int)) := ext_cell RB.out dj
      generalize done.getD y false = old at *
      clear hown' RB CJ dj
      go_wp2_with fail
      have BW3 : Hid (Below w.heap.size w (w2.setCell ⟨g, y, none⟩ (.bool true))) := grow_trans B1.out R2.out
      refine (CR2.out g gc _ BW3.out R1.out).mono ?_
      rintro e w4 ⟨ma, mc, rfl, hM, b4⟩
      have HR4 : Hid (IsInts w4 (some ⟨rb, ro, none⟩) R) := hR.out.below (grow_trans R2.out b4)
      have B4 : Hid (Below w.heap.size w w4) := grow_trans BW3.out b4
      have HM : Hid (IsInts w4 ma M) := hM
      clear b4 BW3 R2 R1 CR2 B1 hR hM q3 q4 dj2 HL
      go_wp2
      go_loopw [13, 14, 15] (fun ii _ _ wr => ∃ i : Nat, i ≤ R.length ∧ ii = .int .i64 i ∧ Hid (Below w4.heap.size w4 wr)) (fun ii _ _ _ => R.length - (intOf ii).toNat)
      case atStart => exact ⟨0, Nat.zero_le _, rfl, Below.refl _ _⟩
      case round =>
        obtain ⟨i, hi', rfl, hBo⟩ := hrel
        by_cases hlt : i < R.length
        · obtain ⟨b5, o5, h5, _, ci⟩ := HR4.out i hlt
          injection h5 with h5
          injection h5 with q1 q2 _
          subst q1 q2
          obtain ⟨b6, o6, h6, _, cj⟩ := HR4.out j hj
          injection h6 with h6
          injection h6 with q1 q2 _
          subst q1 q2
          rw [HRy.out] at cj
          have j1 : (0 : Int) ≤ (i : Int) := by omega
          have j2 : (i : Int) < (R.length : Int) := by omega
          by_cases hij : i = j
          · have hie : ((i : Int) == (j : Int)) = true := by rw [hij]; simp
            clear ci
            go_wp2
            go_loopw [14, 15] (fun v kk wz => ∃ k : Nat, k ≤ M.length ∧ kk = .int .i64 k ∧ v = .bool (true) ∧ Hid (Below w4.heap.size w4 wz)) (fun _ kk _ => M.length - (intOf kk).toNat)
            case atStart => exact ⟨0, Nat.zero_le _, rfl, rfl, hBo⟩
            case round =>
              obtain ⟨k, hk, rfl, rfl, hBz⟩ := hrel
              by_cases hlt2 : k < M.length
              · obtain ⟨mb, mo, hme, _, cm⟩ := HM.out k hlt2
                subst hme
                have cmz := ext_cell hBz.out cm
                have cjz := ext_cell hBz.out cj
                clear cm cj
                have HNEk := HNE.out k hlt2
                generalize M.getD k 0 = zk at *
                have k1 : (0 : Int) ≤ (k : Int) := by omega
                have k2 : (k : Int) < (M.length : Int) := by omega
                go_upto_region 17 with fail
                go_quiet (fail)
                go_upto_region 18 with fail
                go_quiet (fail)
                go_wp2
                go_roundw
                case rel => exact ⟨k + 1, by omega, by go_num, rfl, below_drewN hBz.out _⟩
                case measure => simp [intOf]; omega
              · have hkk : k = M.length := by omega
                subst hkk
                go_wp2
                go_roundw
                case rel => exact ⟨i + 1, by omega, by go_num, hBz⟩
                case measure => simp [intOf]; omega
          · have hie : ((i : Int) == (j : Int)) = false := by simp; omega
            go_wp2
            go_loopw [14, 15] (fun v kk wz => ∃ k : Nat, k ≤ M.length ∧ kk = .int .i64 k ∧ v = .bool ((M.take k).contains (R.getD i 0)) ∧ Hid (Below w4.heap.size w4 wz)) (fun _ kk _ => M.length - (intOf kk).toNat)
            case atStart => exact ⟨0, Nat.zero_le _, rfl, by first | rfl | simp, hBo⟩
            case round =>
              obtain ⟨k, hk, rfl, rfl, hBz⟩ := hrel
              by_cases hlt2 : k < M.length
              · obtain ⟨mb, mo, hme, _, cm⟩ := HM.out k hlt2
                subst hme
                have cmz := ext_cell hBz.out cm
                have cjz := ext_cell hBz.out cj
                have ciz := ext_cell hBz.out ci
                clear ci
                clear cm cj
                have HNEk := HNE.out k hlt2
                have HST : Hid ((M.take (k + 1)).contains (R.getD i 0) = ((M.take k).contains (R.getD i 0) || (M.getD k 0 == R.getD i 0))) := contains_take M k hlt2 _
                generalize (M.take k).contains (R.getD i 0) = sk at *
                generalize R.getD i 0 = xi at *
                generalize M.getD k 0 = zk at *
                have k1 : (0 : Int) ≤ (k : Int) := by omega
                have k2 : (k : Int) < (M.length : Int) := by omega
                cases sk with
                | true =>
                  go_upto_region 17 with fail
                  go_quiet (fail)
                  go_upto_region 18 with fail
                  go_quiet (fail)
                  go_wp2
                  go_roundw
                  case rel => exact ⟨k + 1, by omega, by go_num, by rw [HST.out]; rfl, below_drewN hBz.out _⟩
                  case measure => simp [intOf]; omega
                | false =>
                  cases hzx : (zk == xi) with
                  | true =>
                    rw [hzx] at HST
                    go_upto_region 17 with fail
                    go_quiet (fail)
                    go_upto_region 18 with fail
                    go_quiet (fail)
                    go_wp2
                    go_roundw
                    case rel => exact ⟨k + 1, by omega, by go_num, by rw [HST.out]; rfl, below_drewN hBz.out _⟩
                    case measure => simp [intOf]; omega
                  | false =>
                    rw [hzx] at HST
                    go_upto_region 17 with fail
                    go_quiet (fail)
                    go_upto_region 18 with fail
                    go_quiet (fail)
                    go_wp2
                    go_roundw
                    case rel => exact ⟨k + 1, by omega, by go_num, by rw [HST.out]; rfl, below_drewN hBz.out _⟩
                    case measure => simp [intOf]; omega
              · have hkk : k = M.length := by omega
                subst hkk
                have HALL : Hid ((M.take M.length).contains (R.getD i 0) = true) := by
                  show _ = _
                  rw [List.take_of_length_le (Nat.le_refl _)]
                  exact HIN.out i hlt hij
                rw [HALL.out]
                go_wp2
                go_roundw
                case rel => exact ⟨i + 1, by omega, by go_num, hBz⟩
                case measure => simp [intOf]; omega
        · have hii : i = R.length := by omega
          subst hii
          clear HR4 HM
          go_wp2_with fail
          refine (locksBegun_any _).mono ?_
          rintro e v1 ⟨rfl, c1⟩
          have RR : Hid (Below w.heap.size w v1) := grow_trans (grow_trans B4.out hBo.out) c1
          clear c1 B4
          go_wp2
          go_ret
          exact ⟨rfl, RR.out⟩
  · have hbf : (rdE l done != 0) = true := by simpa using hE
    clear hE
    go_enter Try.func8, Try.ntmps8
    go_wp2_with fail
    refine CR.out.mono ?_
    clear CR
    rintro e w1 ⟨ra0, rc0, rfl, hR, b1⟩
    have B1 : Hid (Below w.heap.size w w1) := b1
    clear b1
    go_wp2_with fail
    refine (locksBegun_any _).mono ?_
    rintro e v1 ⟨rfl, c1⟩
    have R : Hid (Below w.heap.size w v1) := grow_trans B1.out c1
    clear c1 B1
    go_wp2
    go_ret
    exact ⟨rfl, R.out⟩
end Go.Proofs.Ytikolifbljnokaa
