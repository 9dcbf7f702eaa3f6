/-
  LocksTells walked: Queue and Ready answer just what the document says, errors too.
  Conditions: the arguments can be read.
-/
import Derived.Test.YtikolifbljnokaaLocksS
import Derived.WalkKit
import Derived.WalkSpells
import Derived.WalkLawsBesides
import Derived.ProofKit
import Derived.OpenShut
import Derived.ChangeOld
import Derived.Deep.Slices
import Derived.Deep.Strs
import Derived.Deep.RegionHeld3
import Derived.BigQuiet
import Derived.Lib.SmallJoins
namespace Go.Proofs.Ytikolifbljnokaa
open Go.ChangeShapes Go.WideShapes Go.ChangeAt Go.RowKit Go.Deep

section
variable {H : Type} {enc : TypeId × Value → H} {w : World} {base : Nat} {held : Bool}
set_option maxRecDepth 100000 in
theorem open_bs {b0 : Nat} {v : Value} {d : DataW H} {p : List MemPlace} (hv : Value.okWide Try.prog w .any b0 55 v) (h : DataW.Trod enc Try.prog w base (fun _ => true) held 55 v d p) :
    ∃ (a : Option Addr) (bs : List Bool) (cap : Nat), v = .slice a bs.length cap ∧ bs.length ≤ maxLen ∧ IsBools w a bs := by
  obtain ⟨za, zl, zc, rfl⟩ := okWide_slice Try.underlying55 hv
  obtain ⟨fuel, hf⟩ := h
  have k4 : Try.prog.cellsOf 4 = 1 := by kernel_rfl
  rcases open_slice Try.underlying55 (by simpa [Value.cells] using hf) with ⟨hcs, _⟩ | ⟨a, len, cap, m, n', D, Pl, hcs, _, hl, hm, hmm, _, hx⟩
  · simp at hcs
    obtain ⟨rfl, rfl, rfl⟩ := hcs
    exact ⟨none, [], 0, rfl, by simp, fun i hi => absurd hi (by simp)⟩
  · simp at hcs
    obtain ⟨rfl, rfl, rfl⟩ := hcs
    have hlm : zl ≤ m := by rw [hmm]; split <;> omega
    rw [k4] at hx
    obtain ⟨f, hf⟩ := choose_lt (α := Bool) (p := fun i b => w.cell? (a.add (i * 1)) = some (.bool b)) (n := m) (fun i hi => by
      obtain ⟨cs', h1, h2⟩ := hx i hi
      obtain ⟨_, hlen, hc⟩ := World.cells?_some h1
      match cs', hlen with
      | [c0], _ =>
        obtain ⟨b, h3, _⟩ := DataW.trod_bool Try.underlying4 h2
        simp at h3
        subst h3
        have := hc 0 (by omega)
        exact ⟨b, by simpa [Addr.add] using this⟩)
    obtain ⟨b, off, spot⟩ := a
    refine ⟨some ⟨b, off, spot⟩, (List.range zl).map f, zc, by simp, by simp; omega, fun i hi => ?_⟩
    have hi' : i < zl := by simpa using hi
    have hsp : spot = none := by
      have := World.cell?_spot (hf 0 (by omega))
      simpa [Addr.add] using this
    subst hsp
    have e0 := hf i (by omega)
    rw [Nat.mul_one, add_none] at e0
    have eg : ((List.range zl).map f).getD i false = f i := by simp [List.getD, hi']
    rw [eg]
    exact ⟨b, off, rfl, World.block_lt_of_cell? w _ e0, e0⟩
end

variable (la : Option Addr) (lc : Nat) (l : List TxA) (ba : Option Addr) (bc : Nat) (done : List Bool)

theorem nI_few (L : List Nat) (h : L.length ≤ 8) : (nI L).length ≤ 100 := by rw [nI_len]; omega
theorem rdL_few (l : List TxA) (done : List Bool) : (rdL l done).length ≤ 8 := by
  unfold rdL
  split
  · rename_i h
    have := chkL_small (rdE_zero h).1
    exact Nat.le_trans (readyTo_len l done l.length) this
  · simp
theorem quL_few (l : List TxA) (done : List Bool) (key : Int) : (quL l done key).length ≤ 8 := by
  unfold quL
  split
  · rename_i h
    have := chkL_small (quE_zero h).1
    unfold quN
    rw [List.length_map]
    exact qOf_len l done this _
  · simp

set_option maxRecDepth 100000 in
set_option maxHeartbeats 4000000 in
theorem locksTells_walk (key : Int) (w : World) (hl : IsTxs w la l) (hb : IsBools w ba done) :
    Calls Try.prog 6 #[.slice la l.length lc, .slice ba done.length bc, .int .i64 key] w fun e w' => e = .returned (.bool true) ∧ Below w.heap.size w w' := by
  have HL : Hid (IsTxs w la l) := hl
  have HB : Hid (IsBools w ba done) := hb
  have CQ : Hid (∀ w, IsTxs w la l → IsBools w ba done → Calls Try.prog 25 #[.slice la l.length lc, .slice ba done.length bc, .int .i64 key] w fun e w' => ∃ a c, e = .returned (.tuple #[.slice a (nI (quL l done key)).length c, .int .i64 (quE l done key)]) ∧ Hid (IsInts w' a (nI (quL l done key))) ∧ Below w.heap.size w w') := fun w h1 h2 => queue_any la lc l ba bc done key w h1 h2
  have CR : Hid (∀ w, IsTxs w la l → IsBools w ba done → Calls Try.prog 26 #[.slice la l.length lc, .slice ba done.length bc] w fun e w' => ∃ a c, e = .returned (.tuple #[.slice a (nI (rdL l done)).length c, .int .i64 (rdE l done)]) ∧ Hid (IsInts w' a (nI (rdL l done))) ∧ Below w.heap.size w w') := fun w h1 h2 => ready_any la lc l ba bc done w h1 h2
  have CE : Hid (∀ w, IsTxs w la l → Calls Try.prog 27 #[.slice la l.length lc, .slice ba done.length bc] w fun e w' => e = .returned (.int .i64 (rdE l done)) ∧ Below w.heap.size w w') := fun w h => queueError_any la lc l ba bc done w h
  have SI : Hid (∀ (zs : List Int) (a a' : Option Addr) (c c' : Nat) (w : World), zs.length ≤ 100 → IsInts w a zs → IsInts w a' zs → Calls Try.prog 23 #[.slice a zs.length c, .slice a' zs.length c'] w fun e w' => e = .returned (.bool true) ∧ Below w.heap.size w w') := fun zs a a' c c' w hl h1 h2 => by
    refine (sameInts_any zs zs a a' c c' w (by unfold maxLen; omega) h1 h2).mono ?_
    rintro e w' ⟨rfl, hb⟩
    exact ⟨by simp, hb⟩
  have HQl : Hid ((nI (quL l done key)).length ≤ 100) := nI_few _ (quL_few l done key)
  have HRl : Hid ((nI (rdL l done)).length ≤ 100) := nI_few _ (rdL_few l done)
  by_cases hE : rdE l done = 0
  · obtain ⟨hC, hd⟩ := rdE_zero hE
    have hl8 := chkL_small hC
    have eR : rdL l done = readyL l done := if_pos hE
    have CO : Hid (∀ w, IsTxs w la l → IsBools w ba done → Calls Try.prog 29 #[.slice la l.length lc, .slice ba done.length bc] w fun e w' => ∃ a c, e = .returned (.slice a (nI (rdL l done)).length c) ∧ Hid (IsInts w' a (nI (rdL l done))) ∧ Below w.heap.size w w') := fun w h1 h2 => by
      rw [eR]
      exact readyOf_any la lc l ba bc done w h1 h2 hd hl8
    have hqe : quE l done key = keyE key := by
      show firstNZ [chkL l, dE l done, keyE key] = keyE key
      rw [hC, show dE l done = 0 from if_pos hd, nz_zero _ _ rfl, nz_zero _ _ rfl]
      unfold firstNZ
      split
      · rename_i h; rw [h]; rfl
      · rfl
    by_cases hk : 0 ≤ key ∧ key < 8
    · obtain ⟨κ, rfl⟩ : ∃ κ : Nat, key = κ := ⟨key.toNat, by omega⟩
      have hke : keyE κ = 0 := if_neg (by omega)
      have hq0 : quE l done κ = 0 := hqe.trans hke
      have eQ : quL l done κ = quN l done κ := if_pos hq0
      have CP : Hid (∀ w, IsTxs w la l → IsBools w ba done → Calls Try.prog 28 #[.slice la l.length lc, .slice ba done.length bc, .int .i64 κ] w fun e w' => ∃ a c, e = .returned (.slice a (nI (quL l done κ)).length c) ∧ Hid (IsInts w' a (nI (quL l done κ))) ∧ Below w.heap.size w w') := fun w h1 h2 => by
        rw [eQ]
        exact queueOf_any la lc l ba bc done κ w h1 h2 hd hl8
      rw [hq0] at CQ
      rw [hE] at CR CE
      have i1 : ¬ (κ : Int) < 0 := by omega
      have i2 : ¬ 8 ≤ (κ : Int) := by omega
      clear hl hb hE hC hd eR hqe hk hke hq0 eQ
      generalize nI (quL l done κ) = Qa at *
      generalize nI (rdL l done) = Ra at *
      go_enter Try.func6, Try.ntmps6
      go_wp2_with fail
      refine (CQ.out _ HL.out HB.out).mono ?_
      rintro e w1 ⟨qa, qc, rfl, hQ, b1⟩
      have B1 : Hid (Below w.heap.size w w1) := b1
      clear b1 CQ
      go_wp2_with fail
      refine (CR.out _ (HL.out.below B1.out) (HB.out.below B1.out)).mono ?_
      rintro e w2 ⟨ra, rc, rfl, hR, b2⟩
      have hQ2 : Hid (IsInts w2 qa Qa) := hQ.out.below b2
      have B2 : Hid (Below w.heap.size w w2) := grow_trans B1.out b2
      clear b2 CR B1 hQ
      go_wp2_with fail
      refine (CE.out _ (HL.out.below B2.out)).mono ?_
      rintro e w3 ⟨rfl, b3⟩
      have hQ3 : Hid (IsInts w3 qa Qa) := hQ2.out.below b3
      have hR3 : Hid (IsInts w3 ra Ra) := hR.out.below b3
      have B3 : Hid (Below w.heap.size w w3) := grow_trans B2.out b3
      clear b3 CE B2 hQ2 hR
      go_wp2_with fail
      refine (CP.out _ (HL.out.below B3.out) (HB.out.below B3.out)).mono ?_
      rintro e w4 ⟨pa, pc, rfl, hP, b4⟩
      have hQ4' : Hid (IsInts w4 qa Qa) := hQ3.out.below b4
      have hR4' : Hid (IsInts w4 ra Ra) := hR3.out.below b4
      have B4' : Hid (Below w.heap.size w w4) := grow_trans B3.out b4
      clear b4 CP B3 hQ3 hR3
      go_wp2_with fail
      refine (CO.out _ (HL.out.below B4'.out) (HB.out.below B4'.out)).mono ?_
      rintro e w5 ⟨oa, oc, rfl, dRz, b5⟩
      have hQz : Hid (IsInts w5 qa Qa) := hQ4'.out.below b5
      have hRz : Hid (IsInts w5 ra Ra) := hR4'.out.below b5
      have dQz : Hid (IsInts w5 pa Qa) := hP.out.below b5
      have Bz : Hid (Below w.heap.size w w5) := grow_trans B4'.out b5
      clear b5 CO B4' hQ4' hR4' hP
      go_wp2_with fail
      refine (locksBegun_any _).mono ?_
      rintro e v1 ⟨rfl, c1⟩
      have hQ4 : Hid (IsInts v1 qa Qa) := hQz.out.below c1
      have hR4 : Hid (IsInts v1 ra Ra) := hRz.out.below c1
      have dQ4 : Hid (IsInts v1 pa Qa) := dQz.out.below c1
      have dR4 : Hid (IsInts v1 oa Ra) := dRz.out.below c1
      have B4 : Hid (Below w.heap.size w v1) := grow_trans Bz.out c1
      clear c1 hQz hRz dQz dRz Bz
      go_wp2_with fail
      refine (SI.out Qa qa pa qc pc _ HQl.out hQ4.out dQ4.out).mono ?_
      rintro e v2 ⟨rfl, c2⟩
      have hR5 : Hid (IsInts v2 ra Ra) := hR4.out.below c2
      have dR5 : Hid (IsInts v2 oa Ra) := dR4.out.below c2
      have B5 : Hid (Below w.heap.size w v2) := grow_trans B4.out c2
      clear c2 hQ4 hR4 dQ4 dR4 B4
      go_wp2_with fail
      refine (SI.out Ra ra oa rc oc _ HRl.out hR5.out dR5.out).mono ?_
      rintro e v3 ⟨rfl, c3⟩
      have R : Hid (Below w.heap.size w v3) := grow_trans B5.out c3
      clear c3 hR5 dR5 B5
      go_wp2
      go_ret
      exact ⟨by first | rfl | simp, R.out⟩
    · have hke : keyE key = 3 := if_pos (by omega)
      have hq3 : quE l done key = 3 := hqe.trans hke
      have eQ : quL l done key = [] := if_neg (by rw [hq3]; decide)
      rw [hq3, eQ] at CQ
      rw [hE] at CR CE
      rw [eQ] at HQl
      clear hl hb hE hC hd eR hqe hke hq3 eQ
      have e0 : nI [] = ([] : List Int) := rfl
      rw [e0] at CQ HQl
      generalize nI (rdL l done) = Ra at *
      by_cases hneg : key < 0
      · clear hk
        go_enter Try.func6, Try.ntmps6
        go_wp2_with fail
        refine (CQ.out _ HL.out HB.out).mono ?_
        rintro e w1 ⟨qa, qc, rfl, hQ, b1⟩
        have B1 : Hid (Below w.heap.size w w1) := b1
        clear b1 CQ
        go_wp2_with fail
        refine (CR.out _ (HL.out.below B1.out) (HB.out.below B1.out)).mono ?_
        rintro e w2 ⟨ra, rc, rfl, hR, b2⟩
        have hQ2 : Hid (IsInts w2 qa ([] : List Int)) := hQ.out.below b2
        have B2 : Hid (Below w.heap.size w w2) := grow_trans B1.out b2
        clear b2 CR B1 hQ
        go_wp2_with fail
        refine (CE.out _ (HL.out.below B2.out)).mono ?_
        rintro e w3 ⟨rfl, b3⟩
        have hQ3 : Hid (IsInts w3 qa ([] : List Int)) := hQ2.out.below b3
        have hR3 : Hid (IsInts w3 ra Ra) := hR.out.below b3
        have B3 : Hid (Below w.heap.size w w3) := grow_trans B2.out b3
        clear b3 CE B2 hQ2 hR
        go_wp2_with fail
        refine (CO.out _ (HL.out.below B3.out) (HB.out.below B3.out)).mono ?_
        rintro e w5 ⟨oa, oc, rfl, dRz, b5⟩
        have hQz : Hid (IsInts w5 qa ([] : List Int)) := hQ3.out.below b5
        have hRz : Hid (IsInts w5 ra Ra) := hR3.out.below b5
        have dQz : Hid (IsInts w5 none ([] : List Int)) := fun i hi => absurd hi (by simp)
        have Bz : Hid (Below w.heap.size w w5) := grow_trans B3.out b5
        clear b5 CO B3 hQ3 hR3
        go_wp2_with fail
        refine (locksBegun_any _).mono ?_
        rintro e v1 ⟨rfl, c1⟩
        have hQ4 : Hid (IsInts v1 qa ([] : List Int)) := hQz.out.below c1
        have hR4 : Hid (IsInts v1 ra Ra) := hRz.out.below c1
        have dQ4 : Hid (IsInts v1 none ([] : List Int)) := dQz.out.below c1
        have dR4 : Hid (IsInts v1 oa Ra) := dRz.out.below c1
        have B4 : Hid (Below w.heap.size w v1) := grow_trans Bz.out c1
        clear c1 hQz hRz dQz dRz Bz
        go_wp2_with fail
        refine (SI.out ([] : List Int) qa none qc 0 _ HQl.out hQ4.out dQ4.out).mono ?_
        rintro e v2 ⟨rfl, c2⟩
        have hR5 : Hid (IsInts v2 ra Ra) := hR4.out.below c2
        have dR5 : Hid (IsInts v2 oa Ra) := dR4.out.below c2
        have B5 : Hid (Below w.heap.size w v2) := grow_trans B4.out c2
        clear c2 hQ4 hR4 dQ4 dR4 B4
        go_wp2_with fail
        refine (SI.out Ra ra oa rc oc _ HRl.out hR5.out dR5.out).mono ?_
        rintro e v3 ⟨rfl, c3⟩
        have R : Hid (Below w.heap.size w v3) := grow_trans B5.out c3
        clear c3 hR5 dR5 B5
        go_wp2
        go_ret
        exact ⟨by first | rfl | simp, R.out⟩
      · have hbig : 8 ≤ key := by omega
        clear hk
        go_enter Try.func6, Try.ntmps6
        go_wp2_with fail
        refine (CQ.out _ HL.out HB.out).mono ?_
        rintro e w1 ⟨qa, qc, rfl, hQ, b1⟩
        have B1 : Hid (Below w.heap.size w w1) := b1
        clear b1 CQ
        go_wp2_with fail
        refine (CR.out _ (HL.out.below B1.out) (HB.out.below B1.out)).mono ?_
        rintro e w2 ⟨ra, rc, rfl, hR, b2⟩
        have hQ2 : Hid (IsInts w2 qa ([] : List Int)) := hQ.out.below b2
        have B2 : Hid (Below w.heap.size w w2) := grow_trans B1.out b2
        clear b2 CR B1 hQ
        go_wp2_with fail
        refine (CE.out _ (HL.out.below B2.out)).mono ?_
        rintro e w3 ⟨rfl, b3⟩
        have hQ3 : Hid (IsInts w3 qa ([] : List Int)) := hQ2.out.below b3
        have hR3 : Hid (IsInts w3 ra Ra) := hR.out.below b3
        have B3 : Hid (Below w.heap.size w w3) := grow_trans B2.out b3
        clear b3 CE B2 hQ2 hR
        go_wp2_with fail
        refine (CO.out _ (HL.out.below B3.out) (HB.out.below B3.out)).mono ?_
        rintro e w5 ⟨oa, oc, rfl, dRz, b5⟩
        have hQz : Hid (IsInts w5 qa ([] : List Int)) := hQ3.out.below b5
        have hRz : Hid (IsInts w5 ra Ra) := hR3.out.below b5
        have dQz : Hid (IsInts w5 none ([] : List Int)) := fun i hi => absurd hi (by simp)
        have Bz : Hid (Below w.heap.size w w5) := grow_trans B3.out b5
        clear b5 CO B3 hQ3 hR3
        go_wp2_with fail
        refine (locksBegun_any _).mono ?_
        rintro e v1 ⟨rfl, c1⟩
        have hQ4 : Hid (IsInts v1 qa ([] : List Int)) := hQz.out.below c1
        have hR4 : Hid (IsInts v1 ra Ra) := hRz.out.below c1
        have dQ4 : Hid (IsInts v1 none ([] : List Int)) := dQz.out.below c1
        have dR4 : Hid (IsInts v1 oa Ra) := dRz.out.below c1
        have B4 : Hid (Below w.heap.size w v1) := grow_trans Bz.out c1
        clear c1 hQz hRz dQz dRz Bz
        go_wp2_with fail
        refine (SI.out ([] : List Int) qa none qc 0 _ HQl.out hQ4.out dQ4.out).mono ?_
        rintro e v2 ⟨rfl, c2⟩
        have hR5 : Hid (IsInts v2 ra Ra) := hR4.out.below c2
        have dR5 : Hid (IsInts v2 oa Ra) := dR4.out.below c2
        have B5 : Hid (Below w.heap.size w v2) := grow_trans B4.out c2
        clear c2 hQ4 hR4 dQ4 dR4 B4
        go_wp2_with fail
        refine (SI.out Ra ra oa rc oc _ HRl.out hR5.out dR5.out).mono ?_
        rintro e v3 ⟨rfl, c3⟩
        have R : Hid (Below w.heap.size w v3) := grow_trans B5.out c3
        clear c3 hR5 dR5 B5
        go_wp2
        go_ret
        exact ⟨by first | rfl | simp, R.out⟩
  · have hqe : quE l done key = rdE l done := by
      show firstNZ [chkL l, dE l done, keyE key] = firstNZ [chkL l, dE l done]
      by_cases hC : chkL l = 0
      · have hdd : ¬ dE l done = 0 := fun h => hE (by
          show firstNZ [chkL l, dE l done] = 0
          rw [hC, h]
          rfl)
        rw [nz_zero _ _ hC, nz_zero _ _ hC, nz_some _ _ hdd, nz_some _ _ hdd]
      · rw [nz_some _ _ hC, nz_some _ _ hC]
    have eQ : quL l done key = [] := if_neg (by rw [hqe]; exact hE)
    have eR : rdL l done = [] := if_neg hE
    rw [hqe, eQ] at CQ
    rw [eR] at CR HRl
    rw [eQ] at HQl
    have hbf : (rdE l done == 0) = false := by simpa using hE
    clear hl hb hE hqe eQ eR
    have e0 : nI [] = ([] : List Int) := rfl
    rw [e0] at CQ CR HQl HRl
    generalize rdE l done = re at *
    go_enter Try.func6, Try.ntmps6
    go_wp2_with fail
    refine (CQ.out _ HL.out HB.out).mono ?_
    rintro e w1 ⟨qa, qc, rfl, hQ, b1⟩
    have B1 : Hid (Below w.heap.size w w1) := b1
    clear b1 CQ
    go_wp2_with fail
    refine (CR.out _ (HL.out.below B1.out) (HB.out.below B1.out)).mono ?_
    rintro e w2 ⟨ra, rc, rfl, hR, b2⟩
    have hQ2 : Hid (IsInts w2 qa ([] : List Int)) := hQ.out.below b2
    have B2 : Hid (Below w.heap.size w w2) := grow_trans B1.out b2
    clear b2 CR B1 hQ
    go_wp2_with fail
    refine (CE.out _ (HL.out.below B2.out)).mono ?_
    rintro e w3 ⟨rfl, b3⟩
    have hQ3 : Hid (IsInts w3 qa ([] : List Int)) := hQ2.out.below b3
    have hR3 : Hid (IsInts w3 ra ([] : List Int)) := hR.out.below b3
    have B3 : Hid (Below w.heap.size w w3) := grow_trans B2.out b3
    clear b3 CE B2 hQ2 hR
    have hQz : Hid (IsInts w3 qa ([] : List Int)) := hQ3
    have hRz : Hid (IsInts w3 ra ([] : List Int)) := hR3
    have dQz : Hid (IsInts w3 none ([] : List Int)) := fun i hi => absurd hi (by simp)
    have dRz : Hid (IsInts w3 none ([] : List Int)) := fun i hi => absurd hi (by simp)
    have Bz : Hid (Below w.heap.size w w3) := B3
    clear hQ3 hR3 B3
    go_wp2_with fail
    refine (locksBegun_any _).mono ?_
    rintro e v1 ⟨rfl, c1⟩
    have hQ4 : Hid (IsInts v1 qa ([] : List Int)) := hQz.out.below c1
    have hR4 : Hid (IsInts v1 ra ([] : List Int)) := hRz.out.below c1
    have dQ4 : Hid (IsInts v1 none ([] : List Int)) := dQz.out.below c1
    have dR4 : Hid (IsInts v1 none ([] : List Int)) := dRz.out.below c1
    have B4 : Hid (Below w.heap.size w v1) := grow_trans Bz.out c1
    clear c1 hQz hRz dQz dRz Bz
    go_wp2_with fail
    refine (SI.out ([] : List Int) qa none qc 0 _ HQl.out hQ4.out dQ4.out).mono ?_
    rintro e v2 ⟨rfl, c2⟩
    have hR5 : Hid (IsInts v2 ra ([] : List Int)) := hR4.out.below c2
    have dR5 : Hid (IsInts v2 none ([] : List Int)) := dR4.out.below c2
    have B5 : Hid (Below w.heap.size w v2) := grow_trans B4.out c2
    clear c2 hQ4 hR4 dQ4 dR4 B4
    go_wp2_with fail
    refine (SI.out ([] : List Int) ra none rc 0 _ HRl.out hR5.out dR5.out).mono ?_
    rintro e v3 ⟨rfl, c3⟩
    have R : Hid (Below w.heap.size w v3) := grow_trans B5.out c3
    clear c3 hR5 dR5 B5
    go_wp2
    go_ret
    exact ⟨by first | rfl | simp, R.out⟩
end Go.Proofs.Ytikolifbljnokaa
