/-
  run: the errors of a pick, of picks too many, and of those that are left.
  Conditions: the arguments can be read.
-/
import Derived.Test.YtikolifbljnokaaGreatLocksF
import Derived.WalkKit
import Derived.WalkSpells
import Derived.WalkLawsBesides
import Derived.Defers
import Derived.Recover
import Derived.ProofKit
import Derived.Deep.RegionHeld
import Derived.Deep.RegionHeld3
import Derived.BigQuiet
import Derived.Deep.RegionLaw
import Derived.Deep.DeepCutAuto
namespace Go.Proofs.YtikolifbljnokaaGreat
open Go.RowKit

def mnE (picks : List Int) : Int := if 200 < picks.length then 2 else 0
set_option maxRecDepth 100000 in
theorem rmany_any (picks : List Int) (pa : Option Addr) (pc : Nat) (w : World) : Calls Tryz.prog 25 #[.slice pa picks.length pc] w fun e w' => e = .returned (.int .i64 (mnE picks)) ∧ Below w.heap.size w w' := by
  by_cases h : 200 < picks.length
  · have H : Hid (mnE picks = 2) := if_pos h
    have h' : (200 : Int) < (picks.length : Int) := by omega
    generalize picks.length = n at *
    go_enter Tryz.func25, Tryz.ntmps25
    go_wp2
    go_ret
    exact ⟨by rw [H.out]; rfl, Below.refl _ _⟩
  · have H : Hid (mnE picks = 0) := if_neg h
    have h' : ¬ (200 : Int) < (picks.length : Int) := by omega
    generalize picks.length = n at *
    go_enter Tryz.func25, Tryz.ntmps25
    go_wp2
    go_ret
    exact ⟨by rw [H.out]; rfl, Below.refl _ _⟩

set_option maxRecDepth 100000 in
theorem gotInts_ok (a : Option Addr) (k c : Nat) (w : World) : Calls Tryz.prog 39 #[.slice a k c, .int .i64 0] w fun e' w' => e' = .returned (.slice a k c) ∧ Below w.heap.size w w' := by
  go_enter Tryz.func39, Tryz.ntmps39
  go_wp2_with fail
  refine (leave_zero [0] _ 1 _ (by simp) rfl (errs1 _ _ _ rfl)).mono ?_
  rintro e w' ⟨rfl, rfl⟩
  go_wp2
  go_ret
  exact ⟨rfl, grow_alloc (Below.refl _ _) _⟩

theorem nI_mem (L : List Nat) (n : Nat) : (n : Int) ∈ nI L ↔ n ∈ L := by
  unfold nI
  constructor
  · intro h
    obtain ⟨m, hm, e⟩ := List.mem_map.1 h
    have : m = n := by
      have e' : (m : Int) = (n : Int) := e
      omega
    rw [← this]; exact hm
  · intro h
    exact List.mem_map.2 ⟨n, h, rfl⟩

/-- Is one of these truths false? -/
def idxB (L : List Bool) : Int := if false ∈ L then ((L.findIdx (fun b => b == false) : Nat) : Int) else -1
set_option maxRecDepth 100000 in
set_option maxHeartbeats 1000000 in
theorem indexB_any (L : List Bool) (a : Option Addr) (c : Nat) (w : World) (hL : IsBools w a L) (hl : L.length ≤ 100) :
    Calls Tryz.prog 61 #[.slice a L.length c, .bool false] w fun e w' => ∃ i : Int, e = .returned (.int .i64 i) ∧ decide (0 ≤ i) = decide (false ∈ L) ∧ Below w.heap.size w w' := by
  have HL : Hid (IsBools w a L) := hL
  clear hL
  go_enter Tryz.func61, Tryz.ntmps61
  go_wp2
  go_loopw [5, 8] (fun _ i wr => ∃ k : Nat, k ≤ L.length ∧ i = .int .i64 k ∧ Hid (∀ j, j < k → L.getD j false = true) ∧ wr = w) (fun _ i _ => L.length - (intOf i).toNat)
  case atStart => exact ⟨0, Nat.zero_le _, rfl, (fun j hj => by omega), rfl⟩
  case round =>
    obtain ⟨k, hk, rfl, hn, rfl⟩ := hrel
    by_cases hlt : k < L.length
    · obtain ⟨b, off, rfl, _, c0⟩ := HL.out k hlt
      have HK : Hid (L.getD k false = false → false ∈ L) := fun h => by
        rw [← h]
        simp [List.getD, hlt]
      have HG : Hid (L.getD k false = true → ∀ j, j < k + 1 → L.getD j false = true) := fun h j hj => by
        by_cases e : j = k
        · rw [e]; exact h
        · exact hn.out j (by omega)
      clear hn
      generalize L.getD k false = t at *
      have j1 : (0 : Int) ≤ (k : Int) := by omega
      have j2 : (k : Int) < (L.length : Int) := by omega
      cases t with
      | true =>
        have HR : Hid (∀ j, j < k + 1 → L.getD j false = true) := HG.out rfl
        clear HG HK
        go_wp2
        go_roundw
        case rel => exact ⟨k + 1, by omega, by go_num, HR, trivial⟩
        case measure => simp [intOf]; omega
      | false =>
        have HR : Hid (false ∈ L) := HK.out rfl
        clear HG HK
        go_wp2
        go_ret
        exact ⟨k, rfl, by have := HR.out; simp [this], Below.refl _ _⟩
    · have HR : Hid (¬ false ∈ L) := fun h => by
        obtain ⟨j, hj, e⟩ := List.mem_iff_getElem.1 h
        have := hn.out j (by omega)
        simp [List.getD, hj, e] at this
      clear hn
      go_wp2
      go_ret
      exact ⟨-1, rfl, by have := HR.out; simp [this], Below.refl _ _⟩

set_option maxRecDepth 100000 in
set_option maxHeartbeats 1000000 in
theorem left_any (L : List Bool) (a : Option Addr) (c : Nat) (w : World) (hL : IsBools w a L) (hl : L.length ≤ 100) :
    Calls Tryz.prog 27 #[.slice a L.length c] w fun e w' => e = .returned (.int .i64 (leftE L)) ∧ Below w.heap.size w w' := by
  have CC : Hid (Calls Tryz.prog 41 #[.slice a L.length c, .bool false] w fun e w' => e = .returned (.bool (decide (false ∈ L))) ∧ Below w.heap.size w w') := by
    have CI : Hid (Calls Tryz.prog 61 #[.slice a L.length c, .bool false] w fun e w' => ∃ i : Int, e = .returned (.int .i64 i) ∧ decide (0 ≤ i) = decide (false ∈ L) ∧ Below w.heap.size w w') := indexB_any L a c w hL hl
    show Calls Tryz.prog 41 _ _ _
    clear hL
    go_enter Tryz.func41, Tryz.ntmps41
    go_wp2_with fail
    refine CI.out.mono ?_
    clear CI
    rintro e w1 ⟨i, rfl, hi, hb⟩
    have B : Hid (Below w.heap.size w w1) := hb
    have HI : Hid (decide (0 ≤ i) = decide (false ∈ L)) := hi
    clear hb hi
    go_wp2
    go_ret
    exact ⟨by rw [← HI.out]; rfl, B.out⟩
  clear hL
  by_cases h : false ∈ L
  · have HR : Hid (leftE L = 8) := if_pos h
    have hd : decide (false ∈ L) = true := by simp [h]
    rw [hd] at CC
    clear h hd
    go_enter Tryz.func27, Tryz.ntmps27
    go_wp2_with fail
    refine CC.out.mono ?_
    clear CC
    rintro e w1 ⟨rfl, hb⟩
    have B : Hid (Below w.heap.size w w1) := hb
    clear hb
    go_wp2
    go_ret
    exact ⟨by rw [HR.out]; rfl, B.out⟩
  · have HR : Hid (leftE L = 0) := if_neg h
    have hd : decide (false ∈ L) = false := by simp [h]
    rw [hd] at CC
    clear h hd
    go_enter Tryz.func27, Tryz.ntmps27
    go_wp2_with fail
    refine CC.out.mono ?_
    clear CC
    rintro e w1 ⟨rfl, hb⟩
    have B : Hid (Below w.heap.size w w1) := hb
    clear hb
    go_wp2
    go_ret
    exact ⟨by rw [HR.out]; rfl, B.out⟩

variable (la : Option Addr) (lc : Nat) (l : List TxA) (ba : Option Addr) (bc : Nat) (done : List Bool)

set_option maxRecDepth 100000 in
set_option maxHeartbeats 2000000 in
theorem pick_any (n : Int) (w : World) (hl : IsTxs w la l) (hb : IsBools w ba done) (hE : rdE l done = 0) :
    Calls Tryz.prog 26 #[.slice la l.length lc, .slice ba done.length bc, .int .i64 n] w fun e w' => e = .returned (.int .i64 (pick1 l done n)) ∧ Below w.heap.size w w' := by
  obtain ⟨hC, hd⟩ := rdE_zero hE
  have hl8 := chkL_small hC
  by_cases h1 : n < 0
  · have HR : Hid (pick1 l done n = 5) := if_pos (.inl h1)
    clear hl hb hE hC hd
    go_enter Tryz.func26, Tryz.ntmps26
    go_wp2
    go_ret
    exact ⟨by rw [HR.out]; rfl, Below.refl _ _⟩
  · by_cases h2 : (l.length : Int) ≤ n
    · have HR : Hid (pick1 l done n = 5) := if_pos (.inr h2)
      clear hl hb hE hC hd
      go_enter Tryz.func26, Tryz.ntmps26
      go_wp2
      go_ret
      exact ⟨by rw [HR.out]; rfl, Below.refl _ _⟩
    · obtain ⟨k, rfl⟩ : ∃ k : Nat, n = k := ⟨n.toNat, by omega⟩
      obtain ⟨b2, off2, rfl, _, e3⟩ := hb k (by omega)
      have d3 : w.cell? ⟨b2, off2 + k, none⟩ = some (.bool (dn done k)) := e3
      have HP : Hid (pick1 l done k = if dn done k = true then 7 else if readyX l done k = true then 0 else 6) := by
        show pick1 l done k = _
        unfold pick1
        rw [if_neg (by omega), Int.toNat_natCast]
      have CR : Hid (Calls Tryz.prog 40 #[.slice la l.length lc, .slice (some ⟨b2, off2, none⟩) done.length bc] w fun e w' => ∃ a c, e = .returned (.tuple #[.slice a (nI (readyL l done)).length c, .int .i64 0]) ∧ Hid (IsInts w' a (nI (readyL l done))) ∧ Below w.heap.size w w') := by
        have h := ready_any la lc l (some ⟨b2, off2, none⟩) bc done w hl hb
        rw [show rdL l done = readyL l done from if_pos hE, hE] at h
        exact h
      have HM : Hid (decide ((k : Int) ∈ nI (readyL l done)) = readyX l done k) := by
        show _ = _
        rw [Bool.eq_iff_iff, decide_eq_true_eq, nI_mem]
        unfold readyL
        rw [readyTo_mem]
        exact ⟨fun h => h.2, fun h => ⟨by omega, h⟩⟩
      have HLn : Hid ((nI (readyL l done)).length ≤ maxLen) := by
        show _ ≤ _
        rw [nI_len]
        have := readyTo_len l done l.length
        unfold readyL maxLen
        omega
      have j1 : (0 : Int) ≤ (k : Int) := by omega
      have j2 : (k : Int) < (done.length : Int) := by omega
      have j3 : ¬ (l.length : Int) ≤ (k : Int) := h2
      have j4 : ¬ (k : Int) < 0 := h1
      clear hl hb hE hC hd e3 h1 h2
      generalize readyX l done k = rx at *
      generalize nI (readyL l done) = R at *
      generalize dn done k = dk at *
      cases dk with
      | true =>
        have HR : Hid (pick1 l done k = 7) := HP.out
        clear HP CR HM
        go_enter Tryz.func26, Tryz.ntmps26
        go_wp2
        go_ret
        exact ⟨by rw [HR.out]; rfl, Below.refl _ _⟩
      | false =>
        have HP2 : Hid (pick1 l done k = if rx = true then 0 else 6) := HP.out
        clear HP
        go_enter Tryz.func26, Tryz.ntmps26
        go_wp2_with fail
        refine CR.out.mono ?_
        clear CR
        rintro e w1 ⟨ra, rc, rfl, hR, b1⟩
        have B1 : Hid (Below w.heap.size w w1) := b1
        clear b1 d3
        go_wp2_with fail
        refine (gotInts_ok ra R.length rc _).mono ?_
        rintro e w2 ⟨rfl, b2'⟩
        have hR2 : Hid (IsInts w2 ra R) := hR.out.below b2'
        have B2 : Hid (Below w.heap.size w w2) := grow_trans B1.out b2'
        clear b2' B1 hR
        go_wp2_with fail
        refine (contains_any k R ra rc _ HLn.out hR2.out).mono ?_
        rintro e w3 ⟨rfl, rfl⟩
        rw [HM.out]
        clear HM hR2
        cases rx with
        | true =>
          have HR : Hid (pick1 l done k = 0) := HP2.out
          clear HP2
          go_wp2
          go_ret
          exact ⟨by rw [HR.out]; rfl, B2.out⟩
        | false =>
          have HR : Hid (pick1 l done k = 6) := HP2.out
          clear HP2
          go_wp2
          go_ret
          exact ⟨by rw [HR.out]; rfl, B2.out⟩
end Go.Proofs.YtikolifbljnokaaGreat
