/-
  txn.Check answers the first error of a transaction, as the document orders them.
  Conditions: the transaction can be read.
-/
import Derived.Test.YtcgpkonfneofdaaTxnD
import Derived.WalkKit
import Derived.WalkSpells
import Derived.WalkLawsBesides
import Derived.Defers
import Derived.Recover
import Derived.ProofKit
import Derived.Deep.RegionHeld
import Derived.Deep.RegionHeld3
import Derived.BigQuiet
namespace Go.Proofs.Ytcgpkonfneofdaa
open Go.RowKit

/-- What the document says of a transaction: the first error. -/
def chkTx (rs : List Int) (gs : List Gd) (ss : List St) : Int := firstNZ [manyE rs.length gs.length ss.length, keysE rs ss, firstNZ (gs.map (gErr rs.length)), firstNZ (ss.map (sErr rs.length))]

variable (ra ga sa : Option Addr) (rc gc sc : Nat) (rs : List Int) (gs : List Gd) (ss : List St)

set_option maxRecDepth 100000 in
theorem checkGuards_ok (w : World) (ht : IsTx w ra ga sa rs gs ss) (h : firstNZ (gs.map (gErr rs.length)) = 0) :
    Calls Try.prog 80 #[.agg #[.slice ra rs.length rc, .slice ga gs.length gc, .slice sa ss.length sc]] w fun e w' => e = .returned (.tuple #[]) ∧ Below w.heap.size w w' :=
  (checkGuards_any ra ga sa rc gc sc rs gs ss w ht).mono fun _ _ ⟨hc, hb⟩ => ⟨hc.elim (fun x => x.2) (fun x => absurd h x.1), hb⟩
set_option maxRecDepth 100000 in
theorem checkGuards_bad (w : World) (ht : IsTx w ra ga sa rs gs ss) (h : ¬ firstNZ (gs.map (gErr rs.length)) = 0) :
    Calls Try.prog 80 #[.agg #[.slice ra rs.length rc, .slice ga gs.length gc, .slice sa ss.length sc]] w fun e w' => e = .panicked [{ v := .iface 25 (.int .i64 (firstNZ (gs.map (gErr rs.length)))), recovered := false }] ∧ Below w.heap.size w w' :=
  (checkGuards_any ra ga sa rc gc sc rs gs ss w ht).mono fun _ _ ⟨hc, hb⟩ => ⟨hc.elim (fun x => absurd x.1 h) (fun x => x.2), hb⟩
set_option maxRecDepth 100000 in
theorem checkSets_ok (w : World) (ht : IsTx w ra ga sa rs gs ss) (h : firstNZ (ss.map (sErr rs.length)) = 0) :
    Calls Try.prog 81 #[.agg #[.slice ra rs.length rc, .slice ga gs.length gc, .slice sa ss.length sc]] w fun e w' => e = .returned (.tuple #[]) ∧ Below w.heap.size w w' :=
  (checkSets_any ra ga sa rc gc sc rs gs ss w ht).mono fun _ _ ⟨hc, hb⟩ => ⟨hc.elim (fun x => x.2) (fun x => absurd h x.1), hb⟩
set_option maxRecDepth 100000 in
theorem checkSets_bad (w : World) (ht : IsTx w ra ga sa rs gs ss) (h : ¬ firstNZ (ss.map (sErr rs.length)) = 0) :
    Calls Try.prog 81 #[.agg #[.slice ra rs.length rc, .slice ga gs.length gc, .slice sa ss.length sc]] w fun e w' => e = .panicked [{ v := .iface 25 (.int .i64 (firstNZ (ss.map (sErr rs.length)))), recovered := false }] ∧ Below w.heap.size w w' :=
  (checkSets_any ra ga sa rc gc sc rs gs ss w ht).mono fun _ _ ⟨hc, hb⟩ => ⟨hc.elim (fun x => absurd x.1 h) (fun x => x.2), hb⟩

set_option maxRecDepth 100000 in
set_option maxHeartbeats 400000 in
theorem chk1_many (p : Nat) (w : World) (h0 : w.cell? ⟨p, 0, none⟩ = some (.slice ra rs.length rc)) (h1 : w.cell? ⟨p, 1, none⟩ = some (.slice ga gs.length gc)) (h2 : w.cell? ⟨p, 2, none⟩ = some (.slice sa ss.length sc)) (ht : IsTx w ra ga sa rs gs ss) (hm : ¬ manyE rs.length gs.length ss.length = 0) :
    Calls Try.prog 78 #[.pointer (some ⟨p, 0, none⟩)] w fun e w' => e = .panicked [{ v := .iface 25 (.int .i64 (2)), recovered := false }] ∧ Below w.heap.size w w' := by
  have HM : Hid (¬ manyE rs.length gs.length ss.length = 0) := hm
  clear hm
  go_enter Try.func78, Try.ntmps78
  go_wp2_with fail
  refine (checkKeys_many ra ga sa rc gc sc rs gs ss _ ht HM.out).mono ?_
  rintro e w1 ⟨rfl, hb1⟩
  go_wp2
  exact ⟨rfl, rfl, hb1⟩

set_option maxRecDepth 100000 in
set_option maxHeartbeats 400000 in
theorem chk1_keys (p : Nat) (w : World) (h0 : w.cell? ⟨p, 0, none⟩ = some (.slice ra rs.length rc)) (h1 : w.cell? ⟨p, 1, none⟩ = some (.slice ga gs.length gc)) (h2 : w.cell? ⟨p, 2, none⟩ = some (.slice sa ss.length sc)) (ht : IsTx w ra ga sa rs gs ss) (hm : manyE rs.length gs.length ss.length = 0) (hk : ¬ keysE rs ss = 0) :
    Calls Try.prog 78 #[.pointer (some ⟨p, 0, none⟩)] w fun e w' => e = .panicked [{ v := .iface 25 (.int .i64 (keysE rs ss)), recovered := false }] ∧ Below w.heap.size w w' := by
  have HM : Hid (manyE rs.length gs.length ss.length = 0) := hm
  have HK : Hid (¬ keysE rs ss = 0) := hk
  clear hm hk
  go_enter Try.func78, Try.ntmps78
  go_wp2_with fail
  refine (checkKeys_bad ra ga sa rc gc sc rs gs ss _ ht HM.out HK.out).mono ?_
  rintro e w1 ⟨rfl, hb1⟩
  go_wp2
  exact ⟨rfl, rfl, hb1⟩

set_option maxRecDepth 100000 in
set_option maxHeartbeats 400000 in
theorem chk1_guards (p : Nat) (w : World) (h0 : w.cell? ⟨p, 0, none⟩ = some (.slice ra rs.length rc)) (h1 : w.cell? ⟨p, 1, none⟩ = some (.slice ga gs.length gc)) (h2 : w.cell? ⟨p, 2, none⟩ = some (.slice sa ss.length sc)) (ht : IsTx w ra ga sa rs gs ss) (hm : manyE rs.length gs.length ss.length = 0) (hk : keysE rs ss = 0) (hg : ¬ firstNZ (gs.map (gErr rs.length)) = 0) :
    Calls Try.prog 78 #[.pointer (some ⟨p, 0, none⟩)] w fun e w' => e = .panicked [{ v := .iface 25 (.int .i64 (firstNZ (gs.map (gErr rs.length)))), recovered := false }] ∧ Below w.heap.size w w' := by
  have HM : Hid (manyE rs.length gs.length ss.length = 0) := hm
  have HK : Hid (keysE rs ss = 0) := hk
  have HG : Hid (¬ firstNZ (gs.map (gErr rs.length)) = 0) := hg
  clear hm hk hg
  go_enter Try.func78, Try.ntmps78
  go_wp2_with fail
  refine (checkKeys_ok ra ga sa rc gc sc rs gs ss _ ht HM.out HK.out).mono ?_
  rintro e w1 ⟨rfl, hb1⟩
  have B1 := hb1
  have k00 := ext_cell B1 h0
  have k01 := ext_cell B1 h1
  have k02 := ext_cell B1 h2
  go_wp2_with fail
  refine (checkGuards_bad ra ga sa rc gc sc rs gs ss _ (ht.below B1) HG.out).mono ?_
  rintro e w2 ⟨rfl, hb2⟩
  go_wp2
  exact ⟨rfl, rfl, grow_trans B1 hb2⟩

set_option maxRecDepth 100000 in
set_option maxHeartbeats 400000 in
theorem chk1_sets (p : Nat) (w : World) (h0 : w.cell? ⟨p, 0, none⟩ = some (.slice ra rs.length rc)) (h1 : w.cell? ⟨p, 1, none⟩ = some (.slice ga gs.length gc)) (h2 : w.cell? ⟨p, 2, none⟩ = some (.slice sa ss.length sc)) (ht : IsTx w ra ga sa rs gs ss) (hm : manyE rs.length gs.length ss.length = 0) (hk : keysE rs ss = 0) (hg : firstNZ (gs.map (gErr rs.length)) = 0) (hs : ¬ firstNZ (ss.map (sErr rs.length)) = 0) :
    Calls Try.prog 78 #[.pointer (some ⟨p, 0, none⟩)] w fun e w' => e = .panicked [{ v := .iface 25 (.int .i64 (firstNZ (ss.map (sErr rs.length)))), recovered := false }] ∧ Below w.heap.size w w' := by
  have HM : Hid (manyE rs.length gs.length ss.length = 0) := hm
  have HK : Hid (keysE rs ss = 0) := hk
  have HG : Hid (firstNZ (gs.map (gErr rs.length)) = 0) := hg
  have HS : Hid (¬ firstNZ (ss.map (sErr rs.length)) = 0) := hs
  clear hm hk hg hs
  go_enter Try.func78, Try.ntmps78
  go_wp2_with fail
  refine (checkKeys_ok ra ga sa rc gc sc rs gs ss _ ht HM.out HK.out).mono ?_
  rintro e w1 ⟨rfl, hb1⟩
  have B1 := hb1
  have k00 := ext_cell B1 h0
  have k01 := ext_cell B1 h1
  have k02 := ext_cell B1 h2
  go_wp2_with fail
  refine (checkGuards_ok ra ga sa rc gc sc rs gs ss _ (ht.below B1) HG.out).mono ?_
  rintro e w2 ⟨rfl, hb2⟩
  have B2 := grow_trans B1 hb2
  have k10 := ext_cell B2 h0
  have k11 := ext_cell B2 h1
  have k12 := ext_cell B2 h2
  go_wp2_with fail
  refine (checkSets_bad ra ga sa rc gc sc rs gs ss _ (ht.below B2) HS.out).mono ?_
  rintro e w3 ⟨rfl, hb3⟩
  go_wp2
  exact ⟨rfl, rfl, grow_trans B2 hb3⟩

set_option maxRecDepth 100000 in
set_option maxHeartbeats 400000 in
theorem chk1_ok (p : Nat) (w : World) (h0 : w.cell? ⟨p, 0, none⟩ = some (.slice ra rs.length rc)) (h1 : w.cell? ⟨p, 1, none⟩ = some (.slice ga gs.length gc)) (h2 : w.cell? ⟨p, 2, none⟩ = some (.slice sa ss.length sc)) (ht : IsTx w ra ga sa rs gs ss) (hm : manyE rs.length gs.length ss.length = 0) (hk : keysE rs ss = 0) (hg : firstNZ (gs.map (gErr rs.length)) = 0) (hs : firstNZ (ss.map (sErr rs.length)) = 0) :
    Calls Try.prog 78 #[.pointer (some ⟨p, 0, none⟩)] w fun e w' => e = .returned (.bool true) ∧ Below w.heap.size w w' := by
  have HM : Hid (manyE rs.length gs.length ss.length = 0) := hm
  have HK : Hid (keysE rs ss = 0) := hk
  have HG : Hid (firstNZ (gs.map (gErr rs.length)) = 0) := hg
  have HS : Hid (firstNZ (ss.map (sErr rs.length)) = 0) := hs
  clear hm hk hg hs
  go_enter Try.func78, Try.ntmps78
  go_wp2_with fail
  refine (checkKeys_ok ra ga sa rc gc sc rs gs ss _ ht HM.out HK.out).mono ?_
  rintro e w1 ⟨rfl, hb1⟩
  have B1 := hb1
  have k00 := ext_cell B1 h0
  have k01 := ext_cell B1 h1
  have k02 := ext_cell B1 h2
  go_wp2_with fail
  refine (checkGuards_ok ra ga sa rc gc sc rs gs ss _ (ht.below B1) HG.out).mono ?_
  rintro e w2 ⟨rfl, hb2⟩
  have B2 := grow_trans B1 hb2
  have k10 := ext_cell B2 h0
  have k11 := ext_cell B2 h1
  have k12 := ext_cell B2 h2
  go_wp2_with fail
  refine (checkSets_ok ra ga sa rc gc sc rs gs ss _ (ht.below B2) HS.out).mono ?_
  rintro e w3 ⟨rfl, hb3⟩
  have B3 := grow_trans B2 hb3
  go_wp2
  go_ret
  exact ⟨rfl, B3⟩

set_option maxRecDepth 100000 in
theorem check_by (b : Bool) (x : Int) (w : World)
    (h : Calls Try.prog 77 #[.func (.func 78) #[] #[.pointer (some ⟨w.heap.size, 0, none⟩)]] (w.alloc (.cells #[.slice ra rs.length rc, .slice ga gs.length gc, .slice sa ss.length sc] 38)) fun e' w' => e' = .returned (.tuple #[.bool b, .int .i64 x]) ∧ Below (w.alloc (.cells #[.slice ra rs.length rc, .slice ga gs.length gc, .slice sa ss.length sc] 38)).heap.size (w.alloc (.cells #[.slice ra rs.length rc, .slice ga gs.length gc, .slice sa ss.length sc] 38)) w') :
    Calls Try.prog 50 #[.agg #[.slice ra rs.length rc, .slice ga gs.length gc, .slice sa ss.length sc]] w fun e' w' => e' = .returned (.int .i64 x) ∧ Below w.heap.size w w' := by
  have hmf : ∀ (fn : Fn) (first cap : Array Value) (w : World), (Instr.makeFunc fn first cap).run Try.prog w = .ok (.func fn first cap) w := fun _ _ _ _ => rfl
  have H : Hid (Calls Try.prog 77 #[.func (.func 78) #[] #[.pointer (some ⟨w.heap.size, 0, none⟩)]] (w.alloc (.cells #[.slice ra rs.length rc, .slice ga gs.length gc, .slice sa ss.length sc] 38)) fun e' w' => e' = .returned (.tuple #[.bool b, .int .i64 x]) ∧ Below (w.alloc (.cells #[.slice ra rs.length rc, .slice ga gs.length gc, .slice sa ss.length sc] 38)).heap.size (w.alloc (.cells #[.slice ra rs.length rc, .slice ga gs.length gc, .slice sa ss.length sc] 38)) w') := h
  clear h
  go_enter Try.func50, Try.ntmps50
  go_wp2_with fail
  refine H.out.mono ?_
  clear H
  rintro e w1 ⟨rfl, hb⟩
  have Hb := grow_trans (grow_alloc (Below.refl w.heap.size w) _) hb
  clear hb
  go_wp2
  go_ret
  exact ⟨rfl, Hb⟩

set_option maxRecDepth 100000 in
theorem chk_many (h : ¬ manyE rs.length gs.length ss.length = 0) : chkTx rs gs ss = 2 := by
  unfold chkTx; rw [firstNZ, if_neg h]; exact many_two _ _ _ h
set_option maxRecDepth 100000 in
theorem chk_keys (hm : manyE rs.length gs.length ss.length = 0) (h : ¬ keysE rs ss = 0) : chkTx rs gs ss = keysE rs ss := by
  unfold chkTx; rw [firstNZ, if_pos hm, firstNZ, if_neg h]
set_option maxRecDepth 100000 in
theorem chk_guards (hm : manyE rs.length gs.length ss.length = 0) (hk : keysE rs ss = 0) (h : ¬ firstNZ (gs.map (gErr rs.length)) = 0) : chkTx rs gs ss = firstNZ (gs.map (gErr rs.length)) := by
  unfold chkTx; rw [firstNZ, if_pos hm, firstNZ, if_pos hk, firstNZ, if_neg h]
set_option maxRecDepth 100000 in
theorem chk_sets (hm : manyE rs.length gs.length ss.length = 0) (hk : keysE rs ss = 0) (hg : firstNZ (gs.map (gErr rs.length)) = 0) (h : ¬ firstNZ (ss.map (sErr rs.length)) = 0) : chkTx rs gs ss = firstNZ (ss.map (sErr rs.length)) := by
  unfold chkTx; rw [firstNZ, if_pos hm, firstNZ, if_pos hk, firstNZ, if_pos hg, firstNZ, if_neg h]
set_option maxRecDepth 100000 in
theorem chk_ok (hm : manyE rs.length gs.length ss.length = 0) (hk : keysE rs ss = 0) (hg : firstNZ (gs.map (gErr rs.length)) = 0) (h : firstNZ (ss.map (sErr rs.length)) = 0) : chkTx rs gs ss = 0 := by
  unfold chkTx; rw [firstNZ, if_pos hm, firstNZ, if_pos hk, firstNZ, if_pos hg, firstNZ, if_pos h]; rfl

set_option maxRecDepth 100000 in
theorem box_cells (w : World) (o : Obj) : ((w.alloc (.cells #[.slice ra rs.length rc, .slice ga gs.length gc, .slice sa ss.length sc] 38)).alloc o).cell? ⟨w.heap.size, 0, none⟩ = some (.slice ra rs.length rc) ∧ ((w.alloc (.cells #[.slice ra rs.length rc, .slice ga gs.length gc, .slice sa ss.length sc] 38)).alloc o).cell? ⟨w.heap.size, 1, none⟩ = some (.slice ga gs.length gc) ∧ ((w.alloc (.cells #[.slice ra rs.length rc, .slice ga gs.length gc, .slice sa ss.length sc] 38)).alloc o).cell? ⟨w.heap.size, 2, none⟩ = some (.slice sa ss.length sc) := by
  refine ⟨?_, ?_, ?_⟩ <;> (rw [World.cell?_alloc_lt _ _ _ (by simp)]; simp)

set_option maxRecDepth 100000 in
theorem txnCheck_any (w : World) (ht : IsTx w ra ga sa rs gs ss) :
    Calls Try.prog 50 #[.agg #[.slice ra rs.length rc, .slice ga gs.length gc, .slice sa ss.length sc]] w fun e' w' => e' = .returned (.int .i64 (chkTx rs gs ss)) ∧ Below w.heap.size w w' := by
  obtain ⟨h0, h1, h2⟩ := box_cells ra ga sa rc gc sc rs gs ss w (.cells #[.int .i64 0] 25)
  have ht' : IsTx ((w.alloc (.cells #[.slice ra rs.length rc, .slice ga gs.length gc, .slice sa ss.length sc] 38)).alloc (.cells #[.int .i64 0] 25)) ra ga sa rs gs ss := ht.below (grow_alloc (grow_alloc (Below.refl _ _) _) _)
  by_cases hm : manyE rs.length gs.length ss.length = 0
  · by_cases hk : keysE rs ss = 0
    · by_cases hg : firstNZ (gs.map (gErr rs.length)) = 0
      · by_cases hs : firstNZ (ss.map (sErr rs.length)) = 0
        · rw [chk_ok rs gs ss hm hk hg hs]
          exact check_by ra ga sa rc gc sc rs gs ss true 0 w (caught_c_ret _ _ _ ((chk1_ok ra ga sa rc gc sc rs gs ss _ _ h0 h1 h2 ht' hm hk hg hs).mono (fun _ _ h => ⟨h.1, by simpa using h.2⟩)))
        · rw [chk_sets rs gs ss hm hk hg hs]
          exact check_by ra ga sa rc gc sc rs gs ss false _ w (caught_c_pan _ _ _ ((chk1_sets ra ga sa rc gc sc rs gs ss _ _ h0 h1 h2 ht' hm hk hg hs).mono (fun _ _ h => ⟨h.1, by simpa using h.2⟩)))
      · rw [chk_guards rs gs ss hm hk hg]
        exact check_by ra ga sa rc gc sc rs gs ss false _ w (caught_c_pan _ _ _ ((chk1_guards ra ga sa rc gc sc rs gs ss _ _ h0 h1 h2 ht' hm hk hg).mono (fun _ _ h => ⟨h.1, by simpa using h.2⟩)))
    · rw [chk_keys rs gs ss hm hk]
      exact check_by ra ga sa rc gc sc rs gs ss false _ w (caught_c_pan _ _ _ ((chk1_keys ra ga sa rc gc sc rs gs ss _ _ h0 h1 h2 ht' hm hk).mono (fun _ _ h => ⟨h.1, by simpa using h.2⟩)))
  · rw [chk_many rs gs ss hm]
    exact check_by ra ga sa rc gc sc rs gs ss false _ w (caught_c_pan _ _ _ ((chk1_many ra ga sa rc gc sc rs gs ss _ _ h0 h1 h2 ht' hm).mono (fun _ _ h => ⟨h.1, by simpa using h.2⟩)))
end Go.Proofs.Ytcgpkonfneofdaa
