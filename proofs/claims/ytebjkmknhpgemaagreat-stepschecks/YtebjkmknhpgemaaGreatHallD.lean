/-
  Who is in the way of whom at a shard, as a hall tells it.
  Conditions: those that each theorem states.
-/
import Derived.Test.YtebjkmknhpgemaaGreatHallC
import Derived.WalkKit
import Derived.WalkSpells
import Derived.WalkLawsBesides
import Derived.Defers
import Derived.Recover
import Derived.ProofKit
import Derived.Deep.RegionHeld
import Derived.Deep.RegionHeld3
import Derived.Deep.RegionLaw
import Derived.Deep.DeepCutAuto
import Derived.Deep.QuietTactic
import Derived.BigQuiet
import Derived.Maps.AppendAt
import Derived.Lib.SliceRun
import Derived.Deep.AppendLies
namespace Go.Proofs.YtebjkmknhpgemaaGreat
open Go.RowKit

variable {w : World} {h sh : Nat} {l : List TxA} {S : SA} {A : HA}

set_option maxRecDepth 100000 in
set_option maxHeartbeats 1000000 in
theorem clash_any (H : Hall w h sh l S A) {m n k : Nat} (hm : m < l.length) (hn : n < l.length) (hk : k < sh) :
    Calls Tryz.prog 152 #[.pointer (some ⟨h, 0, none⟩), .int .i64 m, .int .i64 n, .int .i64 k] w fun e w' => e = .returned (.bool (clK sh (gX l m) (gX l n) k)) ∧ Below w.heap.size w w' := by
  have e1 := grow_alloc (grow_alloc (grow_alloc (Below.refl w.heap.size w) (.cells #[.pointer (some ⟨h, 0, none⟩)] 82)) (.cells #[.int .i64 n] 3)) (.cells #[.int .i64 k] 3)
  have c0 : (((w.alloc (.cells #[.pointer (some ⟨h, 0, none⟩)] 82)).alloc (.cells #[.int .i64 n] 3)).alloc (.cells #[.int .i64 k] 3)).cell? ⟨w.heap.size, 0, none⟩ = some (.pointer (some ⟨h, 0, none⟩)) := ext_cell (grow_alloc (Below.refl _ _) _) (ext_cell (grow_alloc (Below.refl _ _) _) (at_new w _ 82 _ 0 _ rfl rfl))
  have c1 : (((w.alloc (.cells #[.pointer (some ⟨h, 0, none⟩)] 82)).alloc (.cells #[.int .i64 n] 3)).alloc (.cells #[.int .i64 k] 3)).cell? ⟨w.heap.size + 1, 0, none⟩ = some (.int .i64 n) := ext_cell (grow_alloc (Below.refl _ _) _) (at_new _ _ 3 _ 0 _ (by simp) rfl)
  have c2 : (((w.alloc (.cells #[.pointer (some ⟨h, 0, none⟩)] 82)).alloc (.cells #[.int .i64 n] 3)).alloc (.cells #[.int .i64 k] 3)).cell? ⟨w.heap.size + 2, 0, none⟩ = some (.int .i64 k) := at_new _ _ 3 _ 0 _ (by simp) rfl
  have HH := H.below e1
  obtain ⟨b, off, a', c', ea, _, y1, hlk, _⟩ := HH.lk m hm
  have x7 : (((w.alloc (.cells #[.pointer (some ⟨h, 0, none⟩)] 82)).alloc (.cells #[.int .i64 n] 3)).alloc (.cells #[.int .i64 k] 3)).cell? ⟨h, 7, none⟩ = some (.slice (some ⟨b, off, none⟩) l.length A.kc) := by rw [← ea]; exact HH.h7
  have CC : Hid (Calls Tryz.prog 160 #[.slice a' (lkX (gX l m)).length c', .func (.func 161) #[] #[.pointer (some ⟨w.heap.size, 0, none⟩), .pointer (some ⟨w.heap.size + 2, 0, none⟩), .pointer (some ⟨w.heap.size + 1, 0, none⟩)]] (((w.alloc (.cells #[.pointer (some ⟨h, 0, none⟩)] 82)).alloc (.cells #[.int .i64 n] 3)).alloc (.cells #[.int .i64 k] 3)) fun e w' => e = .returned (.bool (clK sh (gX l m) (gX l n) k)) ∧ Below (((w.alloc (.cells #[.pointer (some ⟨h, 0, none⟩)] 82)).alloc (.cells #[.int .i64 n] 3)).alloc (.cells #[.int .i64 k] 3)).heap.size (((w.alloc (.cells #[.pointer (some ⟨h, 0, none⟩)] 82)).alloc (.cells #[.int .i64 n] 3)).alloc (.cells #[.int .i64 k] 3)) w') := by
    have hh := contains_in (lkX (gX l m)) a' c' 161 #[.pointer (some ⟨w.heap.size, 0, none⟩), .pointer (some ⟨w.heap.size + 2, 0, none⟩), .pointer (some ⟨w.heap.size + 1, 0, none⟩)] (fun p => p.1.toNat % sh == k && (lkX (gX l n)).any fun q => p.1 == q.1 && (p.2 || q.2)) _ hlk (by have := lk_len (gX l m); omega) (fun _ _ => rfl) (fun z t hz w' hb => by
      obtain ⟨c, hc, rfl⟩ := lk_mem hz
      have := cl161 (HH.below hb) hn hk c hc t w.heap.size (w.heap.size + 2) (w.heap.size + 1) (ext_cell hb c0) (ext_cell hb c2) (ext_cell hb c1)
      exact this)
    rw [← lkClash_eq]
    exact hh
  have E1 : Hid (Below w.heap.size w (((w.alloc (.cells #[.pointer (some ⟨h, 0, none⟩)] 82)).alloc (.cells #[.int .i64 n] 3)).alloc (.cells #[.int .i64 k] 3))) := e1
  have i1 : (0 : Int) ≤ (m : Int) := by omega
  have i2 : (m : Int) < (l.length : Int) := by omega
  generalize clK sh (gX l m) (gX l n) k = R at *
  generalize (lkX (gX l m)).length = len at *
  clear HH H hlk e1 c1 c2 ea
  go_enter Tryz.func152, Tryz.ntmps152
  go_wp2_with fail
  refine CC.out.mono ?_
  clear CC
  rintro e w1 ⟨rfl, hb⟩
  have B1 : Hid (Below w.heap.size w w1) := grow_trans E1.out hb
  clear hb E1 c0 x7 y1
  go_wp2
  go_ret
  exact ⟨rfl, B1.out⟩

set_option maxRecDepth 100000 in
set_option maxHeartbeats 1000000 in
theorem blocked_any (H : Hall w h sh l S A) {n k : Nat} (hn : n < l.length) (hk : k < sh) :
    Calls Tryz.prog 137 #[.pointer (some ⟨h, 0, none⟩), .int .i64 n, .int .i64 k] w fun e w' => e = .returned (.bool (blkB sh l S n k)) ∧ Below w.heap.size w w' := by
  have HH : Hid (Hall w h sh l S A) := H
  have HS : Hid (∀ m, blkTo sh l S n k (m + 1) = (blkTo sh l S n k m || (!goneB sh l S m k && clK sh (gX l m) (gX l n) k))) := fun m => any_to _ m
  have HD : Hid (∀ m, m < n → (!goneB sh l S m k && clK sh (gX l m) (gX l n) k) = true → blkB sh l S n k = true) := fun m hm e => any_stop hm e
  have HF : Hid (blkB sh l S n k = blkTo sh l S n k n) := rfl
  have H0 : Hid (blkTo sh l S n k 0 = false) := rfl
  have hl8 := H.l8
  clear H
  generalize blkB sh l S n k = R at *
  generalize hbt : blkTo sh l S n k = bt at *
  clear hbt
  go_enter Tryz.func137, Tryz.ntmps137
  go_wp2
  go_loopw [7, 9] (fun _ i wr => ∃ m : Nat, m ≤ n ∧ i = .int .i64 m ∧ Hid (bt m = false) ∧ Hid (Below w.heap.size w wr)) (fun _ i _ => n - (intOf i).toNat)
  case atStart => exact ⟨0, Nat.zero_le _, rfl, H0, Below.refl _ _⟩
  case round =>
    obtain ⟨m, hm, rfl, hC, hB⟩ := hrel
    by_cases hlt : m < n
    · have hml : m < l.length := by omega
      have HT : Hid (bt (m + 1) = (!goneB sh l S m k && clK sh (gX l m) (gX l n) k)) := by show _ = _; rw [HS.out, hC.out]; rfl
      have HDm : Hid ((!goneB sh l S m k && clK sh (gX l m) (gX l n) k) = true → R = true) := HD.out m hlt
      have CG : Hid (Calls Tryz.prog 50 #[.pointer (some ⟨h, 0, none⟩), .int .i64 m, .int .i64 k] wr fun e w' => e = .returned (.bool (goneB sh l S m k)) ∧ w' = wr) := gone_any (HH.out.below hB.out) hml hk
      have CC : Hid (Calls Tryz.prog 152 #[.pointer (some ⟨h, 0, none⟩), .int .i64 m, .int .i64 n, .int .i64 k] wr fun e w' => e = .returned (.bool (clK sh (gX l m) (gX l n) k)) ∧ Below wr.heap.size wr w') := clash_any (HH.out.below hB.out) hml hn hk
      generalize goneB sh l S m k = g at *
      generalize clK sh (gX l m) (gX l n) k = c at *
      clear HS HD HF hC HH
      have i1 : (m : Int) < (n : Int) := by omega
      cases g
      · go_wp2_with fail
        refine CG.out.mono ?_
        rintro e w1 ⟨rfl, hw1⟩
        subst hw1
        clear CG
        go_wp2_with fail
        refine CC.out.mono ?_
        rintro e w1 ⟨rfl, hb1⟩
        have B1 : Hid (Below w.heap.size w w1) := grow_trans hB.out hb1
        clear CC hb1 hB
        cases c
        · go_wp2
          go_roundw
          case rel => exact ⟨m + 1, by omega, by go_num, HT.out, B1⟩
          case measure => simp [intOf]; omega
        · have HR : Hid (R = true) := HDm.out rfl
          clear HDm HT
          go_wp2
          go_ret
          exact ⟨by rw [HR.out]; rfl, B1.out⟩
      · go_wp2_with fail
        refine CG.out.mono ?_
        rintro e w1 ⟨rfl, hw1⟩
        subst hw1
        clear CG CC
        go_wp2
        go_roundw
        case rel => exact ⟨m + 1, by omega, by go_num, HT.out, hB⟩
        case measure => simp [intOf]; omega
    · have hmm : m = n := by omega
      have HR : Hid (R = false) := by
        have := hC.out
        rw [hmm] at this
        exact HF.out.trans this
      have i1 : ¬ (m : Int) < (n : Int) := by omega
      clear HS HD HF hC HH
      go_wp2
      go_ret
      exact ⟨by rw [HR.out]; rfl, hB.out⟩
end Go.Proofs.YtebjkmknhpgemaaGreat
