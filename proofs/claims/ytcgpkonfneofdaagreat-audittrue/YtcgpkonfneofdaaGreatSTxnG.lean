/-
  
  Conditions: those that each theorem states.
-/
import Derived.Test.YtcgpkonfneofdaaGreatSTxnD
import Derived.Maps.AppendAt
set_option maxRecDepth 100000
namespace Go.Proofs.YtcgpkonfneofdaaGreat
open Go.RowKit
def chkTx (rs : List Int) (gs : List Gd) (ss : List St) : Int := firstNZ [manyE rs.length gs.length ss.length, keysE rs ss, firstNZ (gs.map (gErr rs.length)), firstNZ (ss.map (sErr rs.length))]
variable (ra ga sa : Option Addr) (rc gc sc : Nat) (rs : List Int) (gs : List Gd) (ss : List St)
theorem checkGuards_ok (w : World) (ht : IsTx w ra ga sa rs gs ss) (h : firstNZ (gs.map (gErr rs.length)) = 0) :
  Calls Tryz.prog 78 #[.agg #[.slice ra rs.length rc, .slice ga gs.length gc, .slice sa ss.length sc]] w fun e w' => e = .returned (.tuple #[]) ∧ Below w.heap.size w w' :=
 (checkGuards_any ra ga sa rc gc sc rs gs ss w ht).mono fun _ _ ⟨hc, hb⟩ => ⟨hc.elim (fun x => x.2) (fun x => absurd h x.1), hb⟩
theorem checkGuards_bad (w : World) (ht : IsTx w ra ga sa rs gs ss) (h : ¬ firstNZ (gs.map (gErr rs.length)) = 0) :
  Calls Tryz.prog 78 #[.agg #[.slice ra rs.length rc, .slice ga gs.length gc, .slice sa ss.length sc]] w fun e w' => e = .panicked [{ v := .iface 30 (.int .i64 (firstNZ (gs.map (gErr rs.length)))), recovered := false }] ∧ Below w.heap.size w w' :=
 (checkGuards_any ra ga sa rc gc sc rs gs ss w ht).mono fun _ _ ⟨hc, hb⟩ => ⟨hc.elim (fun x => absurd x.1 h) (fun x => x.2), hb⟩
theorem checkSets_ok (w : World) (ht : IsTx w ra ga sa rs gs ss) (h : firstNZ (ss.map (sErr rs.length)) = 0) :
  Calls Tryz.prog 79 #[.agg #[.slice ra rs.length rc, .slice ga gs.length gc, .slice sa ss.length sc]] w fun e w' => e = .returned (.tuple #[]) ∧ Below w.heap.size w w' :=
 (checkSets_any ra ga sa rc gc sc rs gs ss w ht).mono fun _ _ ⟨hc, hb⟩ => ⟨hc.elim (fun x => x.2) (fun x => absurd h x.1), hb⟩
theorem checkSets_bad (w : World) (ht : IsTx w ra ga sa rs gs ss) (h : ¬ firstNZ (ss.map (sErr rs.length)) = 0) :
  Calls Tryz.prog 79 #[.agg #[.slice ra rs.length rc, .slice ga gs.length gc, .slice sa ss.length sc]] w fun e w' => e = .panicked [{ v := .iface 30 (.int .i64 (firstNZ (ss.map (sErr rs.length)))), recovered := false }] ∧ Below w.heap.size w w' :=
 (checkSets_any ra ga sa rc gc sc rs gs ss w ht).mono fun _ _ ⟨hc, hb⟩ => ⟨hc.elim (fun x => absurd x.1 h) (fun x => x.2), hb⟩
set_option maxHeartbeats 400000 in
theorem chk1_many (p : Nat) (w : World) (h0 : w.cell? ⟨p, 0, none⟩ = some (.slice ra rs.length rc)) (h1 : w.cell? ⟨p, 1, none⟩ = some (.slice ga gs.length gc)) (h2 : w.cell? ⟨p, 2, none⟩ = some (.slice sa ss.length sc)) (ht : IsTx w ra ga sa rs gs ss) (hm : ¬ manyE rs.length gs.length ss.length = 0) :
  Calls Tryz.prog 76 #[.pointer (some ⟨p, 0, none⟩)] w fun e w' => e = .panicked [{ v := .iface 30 (.int .i64 (2)), recovered := false }] ∧ Below w.heap.size w w' := by
 have HM : Hid (¬ manyE rs.length gs.length ss.length = 0) := hm
 clear hm
 go_enter Tryz.func76, Tryz.ntmps76
 go_wp2_with fail
 refine (checkKeys_many ra ga sa rc gc sc rs gs ss _ ht HM.out).mono ?_
 rintro e w1 ⟨rfl, hb1⟩
 go_wp2
 exact ⟨rfl, rfl, hb1⟩
set_option maxHeartbeats 400000 in
theorem chk1_keys (p : Nat) (w : World) (h0 : w.cell? ⟨p, 0, none⟩ = some (.slice ra rs.length rc)) (h1 : w.cell? ⟨p, 1, none⟩ = some (.slice ga gs.length gc)) (h2 : w.cell? ⟨p, 2, none⟩ = some (.slice sa ss.length sc)) (ht : IsTx w ra ga sa rs gs ss) (hm : manyE rs.length gs.length ss.length = 0) (hk : ¬ keysE rs ss = 0) :
  Calls Tryz.prog 76 #[.pointer (some ⟨p, 0, none⟩)] w fun e w' => e = .panicked [{ v := .iface 30 (.int .i64 (keysE rs ss)), recovered := false }] ∧ Below w.heap.size w w' := by
 have HM : Hid (manyE rs.length gs.length ss.length = 0) := hm
 have HK : Hid (¬ keysE rs ss = 0) := hk
 clear hm hk
 go_enter Tryz.func76, Tryz.ntmps76
 go_wp2_with fail
 refine (checkKeys_bad ra ga sa rc gc sc rs gs ss _ ht HM.out HK.out).mono ?_
 rintro e w1 ⟨rfl, hb1⟩
 go_wp2
 exact ⟨rfl, rfl, hb1⟩
set_option maxHeartbeats 400000 in
theorem chk1_guards (p : Nat) (w : World) (h0 : w.cell? ⟨p, 0, none⟩ = some (.slice ra rs.length rc)) (h1 : w.cell? ⟨p, 1, none⟩ = some (.slice ga gs.length gc)) (h2 : w.cell? ⟨p, 2, none⟩ = some (.slice sa ss.length sc)) (ht : IsTx w ra ga sa rs gs ss) (hm : manyE rs.length gs.length ss.length = 0) (hk : keysE rs ss = 0) (hg : ¬ firstNZ (gs.map (gErr rs.length)) = 0) :
  Calls Tryz.prog 76 #[.pointer (some ⟨p, 0, none⟩)] w fun e w' => e = .panicked [{ v := .iface 30 (.int .i64 (firstNZ (gs.map (gErr rs.length)))), recovered := false }] ∧ Below w.heap.size w w' := by
 have HM : Hid (manyE rs.length gs.length ss.length = 0) := hm
 have HK : Hid (keysE rs ss = 0) := hk
 have HG : Hid (¬ firstNZ (gs.map (gErr rs.length)) = 0) := hg
 clear hm hk hg
 go_enter Tryz.func76, Tryz.ntmps76
 go_wp2_with fail
 refine (checkKeys_ok ra ga sa rc gc sc rs gs ss _ ht HM.out HK.out).mono ?_
 rintro e w1 ⟨rfl, hb1⟩
 have B1 := hb1
 have k00 := ext_cell B1 h0
 have k01 := ext_cell B1 h1
 have k02 := ext_cell B1 h2
 go_wp2_with fail
 refine (checkGuards_bad ra ga sa rc gc sc rs gs ss _ (ht.below B1) HG.out).mono ?_
 rintro e w2 ⟨rfl, hb2⟩
 go_wp2
 exact ⟨rfl, rfl, grow_trans B1 hb2⟩
set_option maxHeartbeats 400000 in
theorem chk1_sets (p : Nat) (w : World) (h0 : w.cell? ⟨p, 0, none⟩ = some (.slice ra rs.length rc)) (h1 : w.cell? ⟨p, 1, none⟩ = some (.slice ga gs.length gc)) (h2 : w.cell? ⟨p, 2, none⟩ = some (.slice sa ss.length sc)) (ht : IsTx w ra ga sa rs gs ss) (hm : manyE rs.length gs.length ss.length = 0) (hk : keysE rs ss = 0) (hg : firstNZ (gs.map (gErr rs.length)) = 0) (hs : ¬ firstNZ (ss.map (sErr rs.length)) = 0) :
  Calls Tryz.prog 76 #[.pointer (some ⟨p, 0, none⟩)] w fun e w' => e = .panicked [{ v := .iface 30 (.int .i64 (firstNZ (ss.map (sErr rs.length)))), recovered := false }] ∧ Below w.heap.size w w' := by
 have HM : Hid (manyE rs.length gs.length ss.length = 0) := hm
 have HK : Hid (keysE rs ss = 0) := hk
 have HG : Hid (firstNZ (gs.map (gErr rs.length)) = 0) := hg
 have HS : Hid (¬ firstNZ (ss.map (sErr rs.length)) = 0) := hs
 clear hm hk hg hs
 go_enter Tryz.func76, Tryz.ntmps76
 go_wp2_with fail
 refine (checkKeys_ok ra ga sa rc gc sc rs gs ss _ ht HM.out HK.out).mono ?_
 rintro e w1 ⟨rfl, hb1⟩
 have B1 := hb1
 have k00 := ext_cell B1 h0
 have k01 := ext_cell B1 h1
 have k02 := ext_cell B1 h2
 go_wp2_with fail
 refine (checkGuards_ok ra ga sa rc gc sc rs gs ss _ (ht.below B1) HG.out).mono ?_
 rintro e w2 ⟨rfl, hb2⟩
 have B2 := grow_trans B1 hb2
 have k10 := ext_cell B2 h0
 have k11 := ext_cell B2 h1
 have k12 := ext_cell B2 h2
 go_wp2_with fail
 refine (checkSets_bad ra ga sa rc gc sc rs gs ss _ (ht.below B2) HS.out).mono ?_
 rintro e w3 ⟨rfl, hb3⟩
 go_wp2
 exact ⟨rfl, rfl, grow_trans B2 hb3⟩
set_option maxHeartbeats 400000 in
theorem chk1_ok (p : Nat) (w : World) (h0 : w.cell? ⟨p, 0, none⟩ = some (.slice ra rs.length rc)) (h1 : w.cell? ⟨p, 1, none⟩ = some (.slice ga gs.length gc)) (h2 : w.cell? ⟨p, 2, none⟩ = some (.slice sa ss.length sc)) (ht : IsTx w ra ga sa rs gs ss) (hm : manyE rs.length gs.length ss.length = 0) (hk : keysE rs ss = 0) (hg : firstNZ (gs.map (gErr rs.length)) = 0) (hs : firstNZ (ss.map (sErr rs.length)) = 0) :
  Calls Tryz.prog 76 #[.pointer (some ⟨p, 0, none⟩)] w fun e w' => e = .returned (.bool true) ∧ Below w.heap.size w w' := by
 have HM : Hid (manyE rs.length gs.length ss.length = 0) := hm
 have HK : Hid (keysE rs ss = 0) := hk
 have HG : Hid (firstNZ (gs.map (gErr rs.length)) = 0) := hg
 have HS : Hid (firstNZ (ss.map (sErr rs.length)) = 0) := hs
 clear hm hk hg hs
 go_enter Tryz.func76, Tryz.ntmps76
 go_wp2_with fail
 refine (checkKeys_ok ra ga sa rc gc sc rs gs ss _ ht HM.out HK.out).mono ?_
 rintro e w1 ⟨rfl, hb1⟩
 have B1 := hb1
 have k00 := ext_cell B1 h0
 have k01 := ext_cell B1 h1
 have k02 := ext_cell B1 h2
 go_wp2_with fail
 refine (checkGuards_ok ra ga sa rc gc sc rs gs ss _ (ht.below B1) HG.out).mono ?_
 rintro e w2 ⟨rfl, hb2⟩
 have B2 := grow_trans B1 hb2
 have k10 := ext_cell B2 h0
 have k11 := ext_cell B2 h1
 have k12 := ext_cell B2 h2
 go_wp2_with fail
 refine (checkSets_ok ra ga sa rc gc sc rs gs ss _ (ht.below B2) HS.out).mono ?_
 rintro e w3 ⟨rfl, hb3⟩
 have B3 := grow_trans B2 hb3
 go_wp2
 go_ret
 exact ⟨rfl, B3⟩
theorem check_by (b : Bool) (x : Int) (w : World)
  (h : Calls Tryz.prog 41 #[.func (.func 76) #[] #[.pointer (some ⟨w.heap.size, 0, none⟩)]] (w.alloc (.cells #[.slice ra rs.length rc, .slice ga gs.length gc, .slice sa ss.length sc] 61)) fun e' w' => e' = .returned (.tuple #[.bool b, .int .i64 x]) ∧ Below (w.alloc (.cells #[.slice ra rs.length rc, .slice ga gs.length gc, .slice sa ss.length sc] 61)).heap.size (w.alloc (.cells #[.slice ra rs.length rc, .slice ga gs.length gc, .slice sa ss.length sc] 61)) w') :
  Calls Tryz.prog 47 #[.agg #[.slice ra rs.length rc, .slice ga gs.length gc, .slice sa ss.length sc]] w fun e' w' => e' = .returned (.int .i64 x) ∧ Below w.heap.size w w' := by
 have hmf : ∀ (fn : Fn) (first cap : Array Value) (w : World), (Instr.makeFunc fn first cap).run Tryz.prog w = .ok (.func fn first cap) w := fun _ _ _ _ => rfl
 have H : Hid (Calls Tryz.prog 41 #[.func (.func 76) #[] #[.pointer (some ⟨w.heap.size, 0, none⟩)]] (w.alloc (.cells #[.slice ra rs.length rc, .slice ga gs.length gc, .slice sa ss.length sc] 61)) fun e' w' => e' = .returned (.tuple #[.bool b, .int .i64 x]) ∧ Below (w.alloc (.cells #[.slice ra rs.length rc, .slice ga gs.length gc, .slice sa ss.length sc] 61)).heap.size (w.alloc (.cells #[.slice ra rs.length rc, .slice ga gs.length gc, .slice sa ss.length sc] 61)) w') := h
 clear h
 go_enter Tryz.func47, Tryz.ntmps47
 go_wp2_with fail
 refine H.out.mono ?_
 clear H
 rintro e w1 ⟨rfl, hb⟩
 have Hb := grow_trans (grow_alloc (Below.refl w.heap.size w) _) hb
 clear hb
 go_wp2
 go_ret
 exact ⟨rfl, Hb⟩
theorem chk_many (h : ¬ manyE rs.length gs.length ss.length = 0) : chkTx rs gs ss = 2 := by
 unfold chkTx; rw [firstNZ, if_neg h]; exact many_two _ _ _ h
theorem chk_keys (hm : manyE rs.length gs.length ss.length = 0) (h : ¬ keysE rs ss = 0) : chkTx rs gs ss = keysE rs ss := by
 unfold chkTx; rw [firstNZ, if_pos hm, firstNZ, if_neg h]
theorem chk_guards (hm : manyE rs.length gs.length ss.length = 0) (hk : keysE rs ss = 0) (h : ¬ firstNZ (gs.map (gErr rs.length)) = 0) : chkTx rs gs ss = firstNZ (gs.map (gErr rs.length)) := by
 unfold chkTx; rw [firstNZ, if_pos hm, firstNZ, if_pos hk, firstNZ, if_neg h]
theorem chk_sets (hm : manyE rs.length gs.length ss.length = 0) (hk : keysE rs ss = 0) (hg : firstNZ (gs.map (gErr rs.length)) = 0) (h : ¬ firstNZ (ss.map (sErr rs.length)) = 0) : chkTx rs gs ss = firstNZ (ss.map (sErr rs.length)) := by
 unfold chkTx; rw [firstNZ, if_pos hm, firstNZ, if_pos hk, firstNZ, if_pos hg, firstNZ, if_neg h]
theorem chk_ok (hm : manyE rs.length gs.length ss.length = 0) (hk : keysE rs ss = 0) (hg : firstNZ (gs.map (gErr rs.length)) = 0) (h : firstNZ (ss.map (sErr rs.length)) = 0) : chkTx rs gs ss = 0 := by
 unfold chkTx; rw [firstNZ, if_pos hm, firstNZ, if_pos hk, firstNZ, if_pos hg, firstNZ, if_pos h]; rfl
theorem box_cells (w : World) (o : Obj) : ((w.alloc (.cells #[.slice ra rs.length rc, .slice ga gs.length gc, .slice sa ss.length sc] 61)).alloc o).cell? ⟨w.heap.size, 0, none⟩ = some (.slice ra rs.length rc) ∧ ((w.alloc (.cells #[.slice ra rs.length rc, .slice ga gs.length gc, .slice sa ss.length sc] 61)).alloc o).cell? ⟨w.heap.size, 1, none⟩ = some (.slice ga gs.length gc) ∧ ((w.alloc (.cells #[.slice ra rs.length rc, .slice ga gs.length gc, .slice sa ss.length sc] 61)).alloc o).cell? ⟨w.heap.size, 2, none⟩ = some (.slice sa ss.length sc) := by
 refine ⟨?_, ?_, ?_⟩ <;> (rw [World.cell?_alloc_lt _ _ _ (by simp)]; simp)
theorem txnCheck_any (w : World) (ht : IsTx w ra ga sa rs gs ss) :
  Calls Tryz.prog 47 #[.agg #[.slice ra rs.length rc, .slice ga gs.length gc, .slice sa ss.length sc]] w fun e' w' => e' = .returned (.int .i64 (chkTx rs gs ss)) ∧ Below w.heap.size w w' := by
 obtain ⟨h0, h1, h2⟩ := box_cells ra ga sa rc gc sc rs gs ss w (.cells #[.int .i64 0] 30)
 have ht' : IsTx ((w.alloc (.cells #[.slice ra rs.length rc, .slice ga gs.length gc, .slice sa ss.length sc] 61)).alloc (.cells #[.int .i64 0] 30)) ra ga sa rs gs ss := ht.below (grow_alloc (grow_alloc (Below.refl _ _) _) _)
 by_cases hm : manyE rs.length gs.length ss.length = 0
 ·by_cases hk : keysE rs ss = 0
  ·by_cases hg : firstNZ (gs.map (gErr rs.length)) = 0
   ·by_cases hs : firstNZ (ss.map (sErr rs.length)) = 0
    ·rw [chk_ok rs gs ss hm hk hg hs]
     exact check_by ra ga sa rc gc sc rs gs ss true 0 w (caught_c_ret _ _ _ ((chk1_ok ra ga sa rc gc sc rs gs ss _ _ h0 h1 h2 ht' hm hk hg hs).mono (fun _ _ h => ⟨h.1, by simpa using h.2⟩)))
    ·rw [chk_sets rs gs ss hm hk hg hs]
     exact check_by ra ga sa rc gc sc rs gs ss false _ w (caught_c_pan _ _ _ ((chk1_sets ra ga sa rc gc sc rs gs ss _ _ h0 h1 h2 ht' hm hk hg hs).mono (fun _ _ h => ⟨h.1, by simpa using h.2⟩)))
   ·rw [chk_guards rs gs ss hm hk hg]
    exact check_by ra ga sa rc gc sc rs gs ss false _ w (caught_c_pan _ _ _ ((chk1_guards ra ga sa rc gc sc rs gs ss _ _ h0 h1 h2 ht' hm hk hg).mono (fun _ _ h => ⟨h.1, by simpa using h.2⟩)))
  ·rw [chk_keys rs gs ss hm hk]
   exact check_by ra ga sa rc gc sc rs gs ss false _ w (caught_c_pan _ _ _ ((chk1_keys ra ga sa rc gc sc rs gs ss _ _ h0 h1 h2 ht' hm hk).mono (fun _ _ h => ⟨h.1, by simpa using h.2⟩)))
 ·rw [chk_many rs gs ss hm]
  exact check_by ra ga sa rc gc sc rs gs ss false _ w (caught_c_pan _ _ _ ((chk1_many ra ga sa rc gc sc rs gs ss _ _ h0 h1 h2 ht' hm).mono (fun _ _ h => ⟨h.1, by simpa using h.2⟩)))
end Go.Proofs.YtcgpkonfneofdaaGreat
namespace Go.Proofs.YtcgpkonfneofdaaGreat
open Go.RowKit
def lkTo (rs ks : List Int) : Nat → List (Int × Bool)
 | 0 => []
 | n + 1 => lkTo rs ks n ++ (if (n : Int) ∈ ks ∨ (n : Int) ∈ rs then [((n : Int), decide ((n : Int) ∈ ks))] else [])
def cellsL (l : List (Int × Bool)) : List Value := l.flatMap fun p => [.int .i64 p.1, .bool p.2]
def lksOf (rs : List Int) (gs : List Gd) (ss : List St) : List (Int × Bool) := if chkTx rs gs ss = 0 then lkTo rs (keysOf ss) 8 else []
theorem lkTo_len (rs ks : List Int) : ∀ n, (lkTo rs ks n).length ≤ n
 | 0 => Nat.le_refl _
 | n + 1 => by
  have := lkTo_len rs ks n
  unfold lkTo
  split <;> simp <;> omega
theorem cellsL_append (l m : List (Int × Bool)) : cellsL (l ++ m) = cellsL l ++ cellsL m := by simp [cellsL]
theorem lkTo_set (rs ks : List Int) (n : Nat) (h : (n : Int) ∈ ks) : lkTo rs ks (n + 1) = lkTo rs ks n ++ [((n : Int), true)] := by
 rw [lkTo, if_pos (.inl h)]; simp [h]
theorem lkTo_read (rs ks : List Int) (n : Nat) (h : ¬ (n : Int) ∈ ks) (h' : (n : Int) ∈ rs) : lkTo rs ks (n + 1) = lkTo rs ks n ++ [((n : Int), false)] := by
 rw [lkTo, if_pos (.inr h')]; simp [h]
theorem lkTo_none (rs ks : List Int) (n : Nat) (h : ¬ (n : Int) ∈ ks) (h' : ¬ (n : Int) ∈ rs) : lkTo rs ks (n + 1) = lkTo rs ks n := by
 rw [lkTo, if_neg (by simp [h, h'])]; simp
def IsLks (w : World) (a : Option Addr) (l : List (Int × Bool)) : Prop :=
 ∀ i, i < l.length → ∃ b off, a = some ⟨b, off, none⟩ ∧ b < w.heap.size ∧ w.cell? ⟨b, off + i * 2, none⟩ = some (.int .i64 (l.getD i (0, false)).1) ∧ w.cell? ⟨b, off + i * 2 + 1, none⟩ = some (.bool (l.getD i (0, false)).2)
theorem IsLks.below {w w' : World} {a : Option Addr} {l : List (Int × Bool)} (h : IsLks w a l) (hb : Below w.heap.size w w') : IsLks w' a l := by
 intro i hi
 obtain ⟨b, off, ha, hlt, h0, h1⟩ := h i hi
 refine ⟨b, off, ha, Nat.lt_of_lt_of_le hlt hb.size, ?_, ?_⟩ <;> (rw [hb.cell hlt]; assumption)
theorem cellsL_get : ∀ (l : List (Int × Bool)) (i : Nat), i < l.length → (cellsL l)[i * 2]? = some (.int .i64 (l.getD i (0, false)).1) ∧ (cellsL l)[i * 2 + 1]? = some (.bool (l.getD i (0, false)).2)
 | [], i, h => by simp at h
 | p :: t, 0, _ => by simp [cellsL]
 | p :: t, i + 1, h => by
  have := cellsL_get t i (by simpa using h)
  have e : cellsL (p :: t) = Value.int .i64 p.1 :: Value.bool p.2 :: cellsL t := by simp [cellsL]
  rw [e]
  have e1 : (i + 1) * 2 = i * 2 + 1 + 1 := by omega
  rw [e1]
  simpa using this
theorem lks_of_owns {w : World} {base : Nat} {v : Value} {n : Nat} {l : List (Int × Bool)} (h : w.ownsRow base 149 2 v n (cellsL l)) (hn : l.length = n) : ∃ a cap, v = .slice a l.length cap ∧ IsLks w a l := by
 rcases h.2 with ⟨rfl, h0⟩ | ⟨g, cap, cur, rfl, hb, hg, hnc, hcm, hcs, htake⟩
 ·refine ⟨none, 0, by rw [hn, h0], fun i hi => ?_⟩
  omega
 ·refine ⟨some ⟨g, 0, none⟩, cap, by rw [hn], fun i hi => ⟨g, 0, rfl, (Array.getElem?_eq_some_iff.1 hg).1, ?_, ?_⟩⟩
  ·rw [Nat.zero_add, h.cellAt (i * 2) (by omega)]
   exact (cellsL_get l i hi).1
  ·rw [Nat.zero_add, h.cellAt (i * 2 + 1) (by omega)]
   exact (cellsL_get l i hi).2
theorem news_lk (w : World) (x : Int) (y : Bool) (s : Nat) (hs : s = w.heap.size) : ∀ j u, [Value.int .i64 x, Value.bool y][j]? = some u → (w.alloc (.cells #[.int .i64 x, .bool y] 149)).cell? ((⟨s, 0, none⟩ : Addr).add j) = some u := by
 subst hs
 intro j u hj
 match j, hj with
 | 0, hj => simp at hj; subst hj; simp [Addr.add]
 | 1, hj => simp at hj; subst hj; simp [Addr.add]
theorem one_lk (x : Int) (y : Bool) : ∀ u ∈ [Value.int .i64 x, Value.bool y], u.oneCell' = true := by
 intro u hu
 simp at hu
 rcases hu with rfl | rfl <;> rfl
theorem Tryz.info149 : (Tryz.prog.info? 149).map (fun i => (i.zero, i.size, i.bytes)) = some (some (.agg #[.int .i64 0, .bool false]), 2, 16) := by kernel_rfl
variable (ra ga sa : Option Addr) (rc gc sc : Nat) (rs : List Int) (gs : List Gd) (ss : List St)
set_option maxHeartbeats 2000000 in
theorem locks_bad (w : World) (ht : IsTx w ra ga sa rs gs ss) (hc : ¬ chkTx rs gs ss = 0) :
  Calls Tryz.prog 73 #[.agg #[.slice ra rs.length rc, .slice ga gs.length gc, .slice sa ss.length sc]] w fun e w' => e = .returned (.tuple #[.slice none 0 0, .int .i64 (chkTx rs gs ss)]) ∧ Below w.heap.size w w' := by
 have hb : (chkTx rs gs ss != 0) = true := by simpa using hc
 clear hc
 go_enter Tryz.func73, Tryz.ntmps73
 go_wp2_with fail
 refine (txnCheck_any ra ga sa rc gc sc rs gs ss _ (ht.below (grow_alloc (Below.refl _ _) _))).mono ?_
 rintro e w1 ⟨rfl, hb1⟩
 have HB : Hid (Below w.heap.size w w1) := grow_trans (grow_alloc (Below.refl _ _) _) hb1
 clear hb1 ht
 go_wp2
 go_ret2
 exact ⟨rfl, HB.out⟩
set_option maxHeartbeats 2000000 in
theorem locks_ok (w : World) (ht : IsTx w ra ga sa rs gs ss) (hc : chkTx rs gs ss = 0) (h3 : ss.length ≤ 3) :
  Calls Tryz.prog 73 #[.agg #[.slice ra rs.length rc, .slice ga gs.length gc, .slice sa ss.length sc]] w fun e w' => ∃ a cap, e = .returned (.tuple #[.slice a (lkTo rs (keysOf ss) 8).length cap, .int .i64 0]) ∧ IsLks w' a (lkTo rs (keysOf ss) 8) ∧ Below w.heap.size w w' := by
 obtain ⟨i0, hi, hz0, hz1, hz2⟩ := info_parts Tryz.info149
 have HT : Hid (IsTx w ra ga sa rs gs ss) := ht
 have HC : Hid (chkTx rs gs ss = 0) := hc
 have hkl : Hid ((keysOf ss).length ≤ maxLen) := by rw [keys_len]; exact ht.ls
 clear ht hc
 go_enter Tryz.func73, Tryz.ntmps73
 go_wp2_with fail
 refine (txnCheck_any ra ga sa rc gc sc rs gs ss _ (HT.out.below (grow_alloc (Below.refl _ _) _))).mono ?_
 rintro e w1 ⟨rfl, hb1⟩
 rw [HC.out]
 have x0 : w1.cell? ⟨w.heap.size, 0, none⟩ = some (.slice ra rs.length rc) := (hb1.cell (by simp)).trans (by simp)
 have x1 : w1.cell? ⟨w.heap.size, 1, none⟩ = some (.slice ga gs.length gc) := (hb1.cell (by simp)).trans (by simp)
 have x2 : w1.cell? ⟨w.heap.size, 2, none⟩ = some (.slice sa ss.length sc) := (hb1.cell (by simp)).trans (by simp)
 have B1 : Below w.heap.size w w1 := grow_trans (grow_alloc (Below.refl _ _) _) hb1
 clear hb1 HC
 go_wp2_with fail
 refine (setKeys_any ra ga sa rc gc sc rs gs ss _ (HT.out.below B1) h3).mono ?_
 rintro e W ⟨ka, kc, rfl, hka, hbW⟩
 have y0 := ext_cell hbW x0
 have hW : Hid (Below w.heap.size w W) := grow_trans B1 hbW
 have hra : Hid (IsInts W ra rs) := HT.out.r.below hW.out
 have hlr : Hid (rs.length ≤ maxLen) := HT.out.lr
 have HKA : Hid (IsInts W ka (keysOf ss)) := hka
 have hq : w.heap.size < W.heap.size := World.block_lt_of_cell? W _ y0
 clear x0 x1 x2 B1 hbW HT hka
 generalize hB : W.heap.size = B at *
 go_wp2_with fail
 go_loopw [5, 7, 8, 16] (fun v _ _ i wr => ∃ k : Nat, k ≤ 8 ∧ i = .int .i64 k ∧ wr.ownsRow B 149 2 v (lkTo rs (keysOf ss) k).length (cellsL (lkTo rs (keysOf ss) k)) ∧ Below B W wr) (fun _ _ _ i _ => 8 - (intOf i).toNat)
 case atStart => exact ⟨0, Nat.zero_le _, rfl, World.ownsRow_nil _ _ _ _, Below.refl _ _⟩
 case round =>
  obtain ⟨k, hk, rfl, hown, hnx⟩ := hrel
  have hsz : B ≤ wr.heap.size := by have := hnx.size; omega
  have q0 : wr.cell? ⟨w.heap.size, 0, none⟩ = some (.slice ra rs.length rc) := (hnx.cell (p := ⟨w.heap.size, 0, none⟩) hq).trans y0
  have hll := lkTo_len rs (keysOf ss) k
  by_cases hlt : k < 8
  ·have hI1 : Hid (IsInts wr ka (keysOf ss)) := HKA.out.below (by rw [hB]; exact hnx)
   have hI2 : Hid (IsInts wr ra rs) := hra.out.below (by rw [hB]; exact hnx)
   by_cases m1 : (k : Int) ∈ keysOf ss
   ·have HS : Hid (lkTo rs (keysOf ss) (k + 1) = lkTo rs (keysOf ss) k ++ [((k : Int), true)]) := lkTo_set rs _ k m1
    have HD : Hid (decide ((k : Int) ∈ keysOf ss) = true) := decide_eq_true m1
    clear m1
    go_wp2_with fail
    refine (contains_any k (keysOf ss) ka kc _ hkl.out hI1.out).mono ?_
    rintro e w' ⟨rfl, rfl⟩
    rw [HD.out]
    go_wp2_with (first | (at_builtin; (refine wpList_append_own _ rfl _ _ 131 rfl B 149 i0 (.agg #[.int .i64 0, .bool false]) 2 16 Tryz.underlying131 hi hz0 hz1 hz2 rfl (by decide) _ _ _ rfl (hown.alloc _) _ 1 1 [.int .i64 k, .bool true] rfl rfl (news_lk _ _ _ _ (by simp)) (one_lk _ _) (by unfold maxLen; omega) (by omega) (by simp; omega) ?_); intro v' w1 hown' hgrow _) | go_in)
    have R : w1.ownsRow B 149 2 v' (lkTo rs (keysOf ss) (k + 1)).length (cellsL (lkTo rs (keysOf ss) (k + 1))) := by
     rw [HS.out, cellsL_append, List.length_append]; exact hown'
    have RB := (hnx.alloc hsz _).grown hgrow (by simp; omega) (fun j hj => (hown.lt j hj).1)
    clear hown' hgrow hown hnx
    go_wp2
    go_roundw
    case rel => exact ⟨k + 1, by omega, by go_num, R, RB⟩
    case measure => simp [intOf]; omega
   ·have HD : Hid (decide ((k : Int) ∈ keysOf ss) = false) := decide_eq_false m1
    by_cases m2 : (k : Int) ∈ rs
    ·have HS : Hid (lkTo rs (keysOf ss) (k + 1) = lkTo rs (keysOf ss) k ++ [((k : Int), false)]) := lkTo_read rs _ k m1 m2
     have HD2 : Hid (decide ((k : Int) ∈ rs) = true) := decide_eq_true m2
     clear m1 m2
     go_wp2_with fail
     refine (contains_any k (keysOf ss) ka kc _ hkl.out hI1.out).mono ?_
     rintro e w' ⟨rfl, rfl⟩
     rw [HD.out]
     go_wp2_with fail
     refine (contains_any k rs ra rc _ hlr.out hI2.out).mono ?_
     rintro e w' ⟨rfl, rfl⟩
     rw [HD2.out]
     go_wp2_with (first | (at_builtin; (refine wpList_append_own _ rfl _ _ 131 rfl B 149 i0 (.agg #[.int .i64 0, .bool false]) 2 16 Tryz.underlying131 hi hz0 hz1 hz2 rfl (by decide) _ _ _ rfl (hown.alloc _) _ 1 1 [.int .i64 k, .bool false] rfl rfl (news_lk _ _ _ _ (by simp)) (one_lk _ _) (by unfold maxLen; omega) (by omega) (by simp; omega) ?_); intro v' w1 hown' hgrow _) | go_in)
     have R : w1.ownsRow B 149 2 v' (lkTo rs (keysOf ss) (k + 1)).length (cellsL (lkTo rs (keysOf ss) (k + 1))) := by
      rw [HS.out, cellsL_append, List.length_append]; exact hown'
     have RB := (hnx.alloc hsz _).grown hgrow (by simp; omega) (fun j hj => (hown.lt j hj).1)
     clear hown' hgrow hown hnx
     go_wp2
     go_roundw
     case rel => exact ⟨k + 1, by omega, by go_num, R, RB⟩
     case measure => simp [intOf]; omega
    ·have HS : Hid (lkTo rs (keysOf ss) (k + 1) = lkTo rs (keysOf ss) k) := lkTo_none rs _ k m1 m2
     have HD2 : Hid (decide ((k : Int) ∈ rs) = false) := decide_eq_false m2
     clear m1 m2
     go_wp2_with fail
     refine (contains_any k (keysOf ss) ka kc _ hkl.out hI1.out).mono ?_
     rintro e w' ⟨rfl, rfl⟩
     rw [HD.out]
     go_wp2_with fail
     refine (contains_any k rs ra rc _ hlr.out hI2.out).mono ?_
     rintro e w' ⟨rfl, rfl⟩
     rw [HD2.out]
     go_wp2
     go_roundw
     case rel => exact ⟨k + 1, by omega, by go_num, by rw [HS.out]; exact hown, hnx⟩
     case measure => simp [intOf]; omega
  ·have hk8 : k = 8 := by omega
   subst hk8
   obtain ⟨a, cap, hv, hL⟩ := lks_of_owns hown rfl
   have RB : Below w.heap.size w wr := hW.out.trans (hnx.mono (by omega))
   rw [hv]
   clear hown hnx hv
   go_wp2
   go_ret2
   exact ⟨a, cap, rfl, hL, RB⟩
theorem locks_any (w : World) (ht : IsTx w ra ga sa rs gs ss) :
  Calls Tryz.prog 73 #[.agg #[.slice ra rs.length rc, .slice ga gs.length gc, .slice sa ss.length sc]] w fun e w' => ∃ a cap, e = .returned (.tuple #[.slice a (lksOf rs gs ss).length cap, .int .i64 (chkTx rs gs ss)]) ∧ IsLks w' a (lksOf rs gs ss) ∧ Below w.heap.size w w' := by
 by_cases hc : chkTx rs gs ss = 0
 ·have hm : manyE rs.length gs.length ss.length = 0 := by
   by_cases hm : manyE rs.length gs.length ss.length = 0
   ·exact hm
   ·have := chk_many rs gs ss hm
    omega
  have h3 := (many_small _ _ _ hm).2.2.1
  have hl : lksOf rs gs ss = lkTo rs (keysOf ss) 8 := if_pos hc
  rw [hl, hc]
  exact locks_ok ra ga sa rc gc sc rs gs ss w ht hc h3
 ·have hl : lksOf rs gs ss = [] := if_neg hc
  rw [hl]
  exact (locks_bad ra ga sa rc gc sc rs gs ss w ht hc).mono fun _ _ ⟨he, hb⟩ => ⟨none, 0, he, fun i hi => absurd hi (by simp), hb⟩
end Go.Proofs.YtcgpkonfneofdaaGreat
