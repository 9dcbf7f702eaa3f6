/-
  The first part of a transaction's check: too many, keys that are none, keys that do not rise; the first of these errors is told.
  Conditions: the transaction can be read.
-/
import Derived.Test.YtcgpkonfneofdaaTxnB
import Derived.WalkKit
import Derived.WalkSpells
import Derived.WalkLawsBesides
import Derived.Defers
import Derived.Recover
import Derived.ProofKit
import Derived.Deep.RegionHeld
import Derived.Deep.RegionHeld3
import Derived.BigQuiet
namespace Go.Proofs.Ytcgpkonfneofdaa
open Go.RowKit

set_option maxRecDepth 100000 in
theorem Try.info3 : (Try.prog.info? 3).map (fun i => (i.zero, i.size, i.bytes)) = some (some (.int .i64 0), 1, 8) := by kernel_rfl

set_option maxRecDepth 100000 in
/-- What the call owns, as a list of ints that can be read. -/
theorem ints_of_owns {w : World} {base : Nat} {v : Value} {n : Nat} {zs : List Int} (h : w.ownsRow base 3 1 v n (zs.map (Value.int .i64))) : ∃ a cap, v = .slice a zs.length cap ∧ IsInts w a zs := by
  have hn : zs.length = n := by have := h.1; simpa using this
  rcases h.2 with ⟨rfl, h0⟩ | ⟨g, cap, cur, rfl, hb, hg, hnc, hcm, hcs, htake⟩
  · refine ⟨none, 0, by rw [hn, h0], fun i hi => ?_⟩
    omega
  · refine ⟨some ⟨g, 0, none⟩, cap, by rw [hn], fun i hi => ⟨g, 0, rfl, (Array.getElem?_eq_some_iff.1 hg).1, ?_⟩⟩
    have hc := h.cellAt i (by omega)
    rw [Nat.zero_add, hc]
    simp [List.getD, hi]

set_option maxRecDepth 100000 in
theorem news_at (w : World) (x : Int) (s : Nat) (hs : s = w.heap.size) : ∀ j u, [Value.int .i64 x][j]? = some u → (w.alloc (.cells #[.int .i64 x] 3)).cell? ((⟨s, 0, none⟩ : Addr).add j) = some u := by
  subst hs
  intro j u hj
  match j, hj with
  | 0, hj => simp at hj; subst hj; simp [Addr.add]

set_option maxRecDepth 100000 in
theorem take_keys (ss : List St) (k : Nat) (h : k < ss.length) : (keysOf ss).take (k + 1) = (keysOf ss).take k ++ [(ss.getD k s0).key] := by
  rw [List.take_succ_eq_append_getElem (by rw [keys_len]; exact h)]
  simp [keysOf, List.getD, h]

variable (ra ga sa : Option Addr) (rc gc sc : Nat) (rs : List Int) (gs : List Gd) (ss : List St)

set_option maxRecDepth 100000 in
set_option maxHeartbeats 800000 in
theorem setKeys_own (w : World) (ht : IsTx w ra ga sa rs gs ss) (h3 : ss.length ≤ 3) :
    Calls Try.prog 98 #[.agg #[.slice ra rs.length rc, .slice ga gs.length gc, .slice sa ss.length sc]] w fun e w' => ∃ v, e = .returned v ∧ w'.ownsRow (w.heap.size + 1) 3 1 v ss.length ((keysOf ss).map (Value.int .i64)) ∧ Below w.heap.size w w' := by
  obtain ⟨_, _, hz, _, _, _⟩ := ht
  obtain ⟨i0, hi, hz0, hz1, hz2⟩ := info_parts Try.info3
  have hkl : Hid ((keysOf ss).length = ss.length) := keys_len ss
  go_enter Try.func98, Try.ntmps98
  go_wp2
  go_loopw [3, 5, 9] (fun v _ i wr => ∃ k : Nat, k ≤ ss.length ∧ i = .int .i64 k ∧ wr.ownsRow (w.heap.size + 1) 3 1 v k (((keysOf ss).take k).map (Value.int .i64)) ∧ Below (w.heap.size + 1) (w.alloc (.cells #[.slice ra rs.length rc, .slice ga gs.length gc, .slice sa ss.length sc] 38)) wr) (fun _ _ i _ => ss.length - (intOf i).toNat)
  case atStart => exact ⟨0, Nat.zero_le _, rfl, World.ownsRow_nil _ _ _ _, Below.refl _ _⟩
  case round =>
    obtain ⟨k, hk, rfl, hown, hnx⟩ := hrel
    have hsz : w.heap.size + 1 ≤ wr.heap.size := by have := hnx.size; simpa using this
    by_cases hlt : k < ss.length
    · obtain ⟨b, off, rfl, hb, c0, c1, c2, c3, c4, c5⟩ := hz k hlt
      have up : ∀ j u, w.cell? ⟨b, j, none⟩ = some u → wr.cell? ⟨b, j, none⟩ = some u := fun j u h =>
        (hnx.cell (p := ⟨b, j, none⟩) (Nat.lt_succ_of_lt hb)).trans ((World.cell?_alloc_lt _ _ ⟨b, j, none⟩ hb).trans h)
      have d0 := up _ _ c0
      have d1 := up _ _ c1
      have d2 := up _ _ c2
      have d3 := up _ _ c3
      have d4 := up _ _ c4
      have d5 := up _ _ c5
      have HT : Hid ((keysOf ss).take (k + 1) = (keysOf ss).take k ++ [(ss.getD k s0).key]) := take_keys ss k hlt
      clear c0 c1 c2 c3 c4 c5 up hz
      generalize (ss.getD k s0) = s at *
      obtain ⟨key, op, ak, an, bk, bn⟩ := s
      simp only at d0 d1 d2 d3 d4 d5
      go_wp2_with (first
        | (at_builtin; refine wpList_append_own _ rfl _ _ 22 rfl (w.heap.size + 1) 3 i0 (.int .i64 0) 1 8 Try.underlying22 hi hz0 hz1 hz2 rfl (by decide) _ _ _ rfl ((hown.alloc _).alloc _) ⟨wr.heap.size + 1, 0, none⟩ 1 1 [.int .i64 key] rfl rfl (news_at _ _ _ (by simp)) (ints_oneCell .i64 [key]) (by unfold maxLen; omega) (by omega) (by simp; omega) ?_; intro v' w1 hown' hgrow _)
        | go_in)
      have R : w1.ownsRow (w.heap.size + 1) 3 1 v' (k + 1) (((keysOf ss).take (k + 1)).map (Value.int .i64)) := by rw [HT.out, List.map_append]; exact hown'
      have RB := (((hnx.alloc (by omega) _).alloc (by simp; omega) _).grown hgrow (by simp; omega) (fun j hj => (hown.lt j hj).1))
      clear hown' hgrow hown hnx d0 d1 d2 d3 d4 d5
      go_wp2
      go_roundw
      case rel => exact ⟨k + 1, by omega, by go_num, R, RB⟩
      case measure => simp [intOf]; omega
    · have R : wr.ownsRow (w.heap.size + 1) 3 1 u3 ss.length ((keysOf ss).map (Value.int .i64)) := by
        have hkk : k = ss.length := by omega
        rw [hkk, List.take_of_length_le (by rw [hkl.out]; exact Nat.le_refl _)] at hown
        exact hown
      have RB : Below w.heap.size w wr := (grow_alloc (Below.refl _ _) _).trans (hnx.mono (by omega))
      clear hown hnx hz
      go_wp2
      go_ret
      exact ⟨_, rfl, R, RB⟩

set_option maxRecDepth 100000 in
theorem setKeys_any (w : World) (ht : IsTx w ra ga sa rs gs ss) (h3 : ss.length ≤ 3) :
    Calls Try.prog 98 #[.agg #[.slice ra rs.length rc, .slice ga gs.length gc, .slice sa ss.length sc]] w fun e w' => ∃ ka kc, e = .returned (.slice ka (keysOf ss).length kc) ∧ IsInts w' ka (keysOf ss) ∧ Below w.heap.size w w' :=
  (setKeys_own ra ga sa rc gc sc rs gs ss w ht h3).mono fun e w' ⟨v, he, ho, hb⟩ => by
    obtain ⟨a, cap, rfl, hz⟩ := ints_of_owns ho
    exact ⟨a, cap, he, hz, hb⟩

set_option maxRecDepth 100000 in
theorem firstNZ_zero : ∀ (es : List Int), firstNZ es = 0 → ∀ k, es.getD k 0 = 0
  | [], _, k => by simp
  | e :: l, h, k => by
    unfold firstNZ at h
    by_cases he : e = 0
    · rw [if_pos he] at h
      cases k with
      | zero => simpa using he
      | succ k => simpa using firstNZ_zero l h k
    · rw [if_neg he] at h; exact absurd h he

set_option maxRecDepth 100000 in
theorem firstNZ_some : ∀ (es : List Int), ¬ firstNZ es = 0 → ∃ n, n < es.length ∧ (∀ k, k < n → es.getD k 0 = 0) ∧ es.getD n 0 = firstNZ es
  | [], h => absurd rfl h
  | e :: l, h => by
    unfold firstNZ at h
    by_cases he : e = 0
    · rw [if_pos he] at h
      obtain ⟨n, h1, h2, h3⟩ := firstNZ_some l h
      refine ⟨n + 1, by simp; omega, fun k hk => ?_, ?_⟩
      · cases k with
        | zero => simpa using he
        | succ k => simpa using h2 k (by omega)
      · rw [firstNZ, if_pos he, ← h3]; simp
    · exact ⟨0, by simp, fun k hk => absurd hk (by omega), by rw [firstNZ, if_neg he]; simp⟩

set_option maxRecDepth 100000 in
theorem leave_zero (es : List Int) (b cap : Nat) (w : World) (hl : es.length ≤ 8) (h : firstNZ es = 0) (hc : ∀ k, k < es.length → w.cell? ⟨b, k, none⟩ = some (.int .i64 (es.getD k 0))) :
    Calls Try.prog 25 #[.slice (some ⟨b, 0, none⟩) es.length cap] w fun e w' => e = .returned (.tuple #[]) ∧ w' = w := leave_ok es b cap w hl (firstNZ_zero es h) hc

set_option maxRecDepth 100000 in
theorem leave_nz (es : List Int) (b cap : Nat) (w : World) (hl : es.length ≤ 8) (h : ¬ firstNZ es = 0) (hc : ∀ k, k < es.length → w.cell? ⟨b, k, none⟩ = some (.int .i64 (es.getD k 0))) :
    Calls Try.prog 25 #[.slice (some ⟨b, 0, none⟩) es.length cap] w fun e w' => e = .panicked [{ v := .iface 25 (.int .i64 (firstNZ es)), recovered := false }] ∧ w' = w := by
  obtain ⟨n, h1, h2, h3⟩ := firstNZ_some es h
  exact leave_bad es n (firstNZ es) b cap w hl h1 h2 h3 h hc

set_option maxRecDepth 100000 in
/-- Lists of errors as they are laid for Leave. -/
theorem errs1 (w : World) (s : Nat) (x : Int) (hs : s = w.heap.size) : ∀ k, k < [x].length → (w.alloc (.cells #[.int .i64 x] 25)).cell? ⟨s, k, none⟩ = some (.int .i64 ([x].getD k 0)) := by
  subst hs
  intro k hk
  match k, hk with
  | 0, _ => simp
set_option maxRecDepth 100000 in
theorem errs2 (w : World) (s : Nat) (x y : Int) (hs : s = w.heap.size) : ∀ k, k < [x, y].length → (w.alloc (.cells #[.int .i64 x, .int .i64 y] 25)).cell? ⟨s, k, none⟩ = some (.int .i64 ([x, y].getD k 0)) := by
  subst hs
  intro k hk
  match k, hk with
  | 0, _ => simp
  | 1, _ => simp
set_option maxRecDepth 100000 in
theorem errs3 (w : World) (s : Nat) (x y z : Int) (hs : s = w.heap.size) : ∀ k, k < [x, y, z].length → (w.alloc (.cells #[.int .i64 x, .int .i64 y, .int .i64 z] 25)).cell? ⟨s, k, none⟩ = some (.int .i64 ([x, y, z].getD k 0)) := by
  subst hs
  intro k hk
  match k, hk with
  | 0, _ => simp
  | 1, _ => simp
  | 2, _ => simp
set_option maxRecDepth 100000 in
theorem errs4 (w : World) (s : Nat) (x y z u : Int) (hs : s = w.heap.size) : ∀ k, k < [x, y, z, u].length → (w.alloc (.cells #[.int .i64 x, .int .i64 y, .int .i64 z, .int .i64 u] 25)).cell? ⟨s, k, none⟩ = some (.int .i64 ([x, y, z, u].getD k 0)) := by
  subst hs
  intro k hk
  match k, hk with
  | 0, _ => simp
  | 1, _ => simp
  | 2, _ => simp
  | 3, _ => simp

set_option maxRecDepth 100000 in
/-- A cell of old memory in a later world. -/
theorem ext_cell {W w' : World} {p : Addr} {v : Value} (hb : Below W.heap.size W w') (q : W.cell? p = some v) : w'.cell? p = some v := (hb.cell (World.block_lt_of_cell? W p q)).trans q
set_option maxRecDepth 100000 in
theorem ext1 {W w' : World} {p : Addr} {v : Value} (hb : Below W.heap.size W w') (q : W.cell? p = some v) : Below W.heap.size W w' ∧ w'.cell? p = some v := ⟨hb, ext_cell hb q⟩

def keysE (rs : List Int) (ss : List St) : Int := firstNZ [rangeE rs, rangeE (keysOf ss), riseE rs, riseE (keysOf ss)]

set_option maxRecDepth 100000 in
theorem many_small (r g s : Nat) (h : manyE r g s = 0) : r ≤ 4 ∧ g ≤ 2 ∧ s ≤ 3 ∧ 0 < s := by
  unfold manyE at h
  by_cases c : 4 < r ∨ 2 < g ∨ 3 < s ∨ s = 0
  · rw [if_pos c] at h; omega
  · omega

set_option maxRecDepth 100000 in
theorem many_two (r g s : Nat) (h : ¬ manyE r g s = 0) : manyE r g s = 2 := by
  unfold manyE at *
  by_cases c : 4 < r ∨ 2 < g ∨ 3 < s ∨ s = 0
  · rw [if_pos c]
  · rw [if_neg c] at h; exact absurd rfl h

set_option maxRecDepth 100000 in
theorem checkKeys_many (w : World) (ht : IsTx w ra ga sa rs gs ss) (hm : ¬ manyE rs.length gs.length ss.length = 0) :
    Calls Try.prog 79 #[.agg #[.slice ra rs.length rc, .slice ga gs.length gc, .slice sa ss.length sc]] w fun e w' => e = .panicked [{ v := .iface 25 (.int .i64 2), recovered := false }] ∧ Below w.heap.size w w' := by
  have H2 : Hid (manyE rs.length gs.length ss.length = 2) := many_two _ _ _ hm
  have ht1 := fun o => ht.below (grow_alloc (Below.refl w.heap.size w) o)
  clear hm
  go_enter Try.func79, Try.ntmps79
  go_wp2_with fail
  refine (manyError_any ra ga sa rc gc sc rs gs ss _ (ht1 _)).mono ?_
  rintro e w' ⟨rfl, rfl⟩
  rw [H2.out]
  clear H2 ht ht1
  go_wp2_with fail
  refine (leave_bad [2] 0 2 _ 1 _ (by simp) (by simp) (by simp) rfl (by decide) (errs1 _ _ _ (by simp))).mono ?_
  rintro e w' ⟨rfl, rfl⟩
  go_wp2
  refine ⟨rfl, rfl, ?_⟩
  repeat (first | exact Below.refl _ _ | refine grow_alloc ?_ _)

set_option maxRecDepth 100000 in
set_option maxHeartbeats 1600000 in
theorem checkKeys_ok (w : World) (ht : IsTx w ra ga sa rs gs ss) (hm : manyE rs.length gs.length ss.length = 0) (hk : keysE rs ss = 0) :
    Calls Try.prog 79 #[.agg #[.slice ra rs.length rc, .slice ga gs.length gc, .slice sa ss.length sc]] w fun e w' => e = .returned (.tuple #[]) ∧ Below w.heap.size w w' := by
  obtain ⟨hr4, _, hs3, _⟩ := many_small _ _ _ hm
  have H0 : Hid (manyE rs.length gs.length ss.length = 0) := hm
  have HK : Hid (keysE rs ss = 0) := hk
  have hkl : Hid ((keysOf ss).length ≤ maxLen) := by rw [keys_len]; exact ht.ls
  have HT : Hid (IsTx w ra ga sa rs gs ss) := ht
  clear hm hk ht
  go_enter Try.func79, Try.ntmps79
  go_wp2_with fail
  refine (manyError_any ra ga sa rc gc sc rs gs ss _ (HT.out.below (grow_alloc (Below.refl _ _) _))).mono ?_
  rintro e w' ⟨rfl, rfl⟩
  rw [H0.out]
  clear H0
  go_wp2_with fail
  refine (leave_zero [0] _ 1 _ (by simp) rfl (errs1 _ _ _ (by simp))).mono ?_
  rintro e w' ⟨rfl, rfl⟩
  go_wp2_with fail
  refine (setKeys_any ra ga sa rc gc sc rs gs ss _ (HT.out.below (by repeat (first | assumption | exact Below.refl _ _ | refine grow_drew ?_ | refine grow_alloc ?_ _ | refine grow_trans ?_ (by assumption)))) hs3).mono ?_
  rintro e W ⟨ka, kc, rfl, hka, hbW⟩
  have hW : Below w.heap.size w W := by repeat (first | assumption | exact Below.refl _ _ | refine grow_drew ?_ | refine grow_alloc ?_ _ | refine grow_trans ?_ (by assumption))
  have q0 : W.cell? ⟨w.heap.size, 0, none⟩ = some (.slice ra rs.length rc) := by
    refine (hbW.cell (by simp; omega)).trans ?_
    rw [World.cell?_alloc_lt _ _ _ (by simp; omega), World.cell?_alloc_lt _ _ _ (by simp)]; simp
  have hra : Hid (IsInts W ra rs) := HT.out.r.below hW
  have hlr : Hid (rs.length ≤ maxLen) := HT.out.lr
  have hks : Hid (IsInts W ka (keysOf ss)) := hka
  clear HT hka hbW
  go_wp2_with fail
  go_region_held3 (fun w' => Below W.heap.size W w' ∧ w'.cell? ⟨w.heap.size, 0, none⟩ = some (.slice ra rs.length rc)) ((go_split_ands; refine ext1 ?_ q0; repeat (first | assumption | exact Below.refl _ _ | refine grow_drew ?_ | refine grow_alloc ?_ _ | refine grow_trans ?_ (by assumption))))
    (first
      | (go_at_call_of 99 (Value.slice ra rs.length rc); refine (rangeError_any rs ra rc _ hlr.out ?_).mono ?_; (refine hra.out.below ?_; go_split_ands; repeat (first | assumption | exact Below.refl _ _ | refine grow_drew ?_ | refine grow_alloc ?_ _ | refine grow_trans ?_ (by assumption))); rintro e w' ⟨rfl, rfl⟩)
      | (go_at_call_of 99 (Value.slice ka (keysOf ss).length kc); refine (rangeError_any (keysOf ss) ka kc _ hkl.out ?_).mono ?_; (refine hks.out.below ?_; go_split_ands; repeat (first | assumption | exact Below.refl _ _ | refine grow_drew ?_ | refine grow_alloc ?_ _ | refine grow_trans ?_ (by assumption))); rintro e w' ⟨rfl, rfl⟩)
      | (go_at_call_of 100 (Value.slice ra rs.length rc); refine (riseError_any rs ra rc _ hlr.out ?_).mono ?_; (refine hra.out.below ?_; go_split_ands; repeat (first | assumption | exact Below.refl _ _ | refine grow_drew ?_ | refine grow_alloc ?_ _ | refine grow_trans ?_ (by assumption))); rintro e w' ⟨rfl, hbx⟩)
      | (go_at_call_of 100 (Value.slice ka (keysOf ss).length kc); refine (riseError_any (keysOf ss) ka kc _ hkl.out ?_).mono ?_; (refine hks.out.below ?_; go_split_ands; repeat (first | assumption | exact Below.refl _ _ | refine grow_drew ?_ | refine grow_alloc ?_ _ | refine grow_trans ?_ (by assumption))); rintro e w' ⟨rfl, hbx⟩)
      | (go_at_call 25; refine (leave_zero [rangeE rs, rangeE (keysOf ss), riseE rs, riseE (keysOf ss)] _ 4 _ (by simp) HK.out ?_).mono ?_; (exact errs4 _ _ _ _ _ _ (by simp)); rintro e w' ⟨rfl, rfl⟩))
  go_end0
  refine ⟨rfl, grow_trans hW ?_⟩
  go_split_ands
  repeat (first | assumption | exact Below.refl _ _ | refine grow_drew ?_ | refine grow_alloc ?_ _ | refine grow_trans ?_ (by assumption))

set_option maxRecDepth 100000 in
set_option maxHeartbeats 1600000 in
theorem checkKeys_bad (w : World) (ht : IsTx w ra ga sa rs gs ss) (hm : manyE rs.length gs.length ss.length = 0) (hk : ¬ keysE rs ss = 0) :
    Calls Try.prog 79 #[.agg #[.slice ra rs.length rc, .slice ga gs.length gc, .slice sa ss.length sc]] w fun e w' => e = .panicked [{ v := .iface 25 (.int .i64 (keysE rs ss)), recovered := false }] ∧ Below w.heap.size w w' := by
  obtain ⟨hr4, _, hs3, _⟩ := many_small _ _ _ hm
  have H0 : Hid (manyE rs.length gs.length ss.length = 0) := hm
  have HK : Hid (¬ keysE rs ss = 0) := hk
  have hkl : Hid ((keysOf ss).length ≤ maxLen) := by rw [keys_len]; exact ht.ls
  have HT : Hid (IsTx w ra ga sa rs gs ss) := ht
  clear hm hk ht
  go_enter Try.func79, Try.ntmps79
  go_wp2_with fail
  refine (manyError_any ra ga sa rc gc sc rs gs ss _ (HT.out.below (grow_alloc (Below.refl _ _) _))).mono ?_
  rintro e w' ⟨rfl, rfl⟩
  rw [H0.out]
  clear H0
  go_wp2_with fail
  refine (leave_zero [0] _ 1 _ (by simp) rfl (errs1 _ _ _ (by simp))).mono ?_
  rintro e w' ⟨rfl, rfl⟩
  go_wp2_with fail
  refine (setKeys_any ra ga sa rc gc sc rs gs ss _ (HT.out.below (by repeat (first | assumption | exact Below.refl _ _ | refine grow_drew ?_ | refine grow_alloc ?_ _ | refine grow_trans ?_ (by assumption)))) hs3).mono ?_
  rintro e W ⟨ka, kc, rfl, hka, hbW⟩
  have hW : Below w.heap.size w W := by repeat (first | assumption | exact Below.refl _ _ | refine grow_drew ?_ | refine grow_alloc ?_ _ | refine grow_trans ?_ (by assumption))
  have q0 : W.cell? ⟨w.heap.size, 0, none⟩ = some (.slice ra rs.length rc) := by
    refine (hbW.cell (by simp; omega)).trans ?_
    rw [World.cell?_alloc_lt _ _ _ (by simp; omega), World.cell?_alloc_lt _ _ _ (by simp)]; simp
  have hra : Hid (IsInts W ra rs) := HT.out.r.below hW
  have hlr : Hid (rs.length ≤ maxLen) := HT.out.lr
  have hks : Hid (IsInts W ka (keysOf ss)) := hka
  clear HT hka hbW
  go_wp2_with fail
  go_region_held (fun w' => Below W.heap.size W w' ∧ w'.cell? ⟨w.heap.size, 0, none⟩ = some (.slice ra rs.length rc)) ((go_split_ands; refine ext1 ?_ q0; repeat (first | assumption | exact Below.refl _ _ | refine grow_drew ?_ | refine grow_alloc ?_ _ | refine grow_trans ?_ (by assumption))))
    (first
      | (go_at_call_of 99 (Value.slice ra rs.length rc); refine (rangeError_any rs ra rc _ hlr.out ?_).mono ?_; (refine hra.out.below ?_; go_split_ands; repeat (first | assumption | exact Below.refl _ _ | refine grow_drew ?_ | refine grow_alloc ?_ _ | refine grow_trans ?_ (by assumption))); rintro e w' ⟨rfl, rfl⟩)
      | (go_at_call_of 99 (Value.slice ka (keysOf ss).length kc); refine (rangeError_any (keysOf ss) ka kc _ hkl.out ?_).mono ?_; (refine hks.out.below ?_; go_split_ands; repeat (first | assumption | exact Below.refl _ _ | refine grow_drew ?_ | refine grow_alloc ?_ _ | refine grow_trans ?_ (by assumption))); rintro e w' ⟨rfl, rfl⟩)
      | (go_at_call_of 100 (Value.slice ra rs.length rc); refine (riseError_any rs ra rc _ hlr.out ?_).mono ?_; (refine hra.out.below ?_; go_split_ands; repeat (first | assumption | exact Below.refl _ _ | refine grow_drew ?_ | refine grow_alloc ?_ _ | refine grow_trans ?_ (by assumption))); rintro e w' ⟨rfl, hbx⟩)
      | (go_at_call_of 100 (Value.slice ka (keysOf ss).length kc); refine (riseError_any (keysOf ss) ka kc _ hkl.out ?_).mono ?_; (refine hks.out.below ?_; go_split_ands; repeat (first | assumption | exact Below.refl _ _ | refine grow_drew ?_ | refine grow_alloc ?_ _ | refine grow_trans ?_ (by assumption))); rintro e w' ⟨rfl, hbx⟩)
      | (go_at_call 25; refine (panic_or (leave_nz [rangeE rs, rangeE (keysOf ss), riseE rs, riseE (keysOf ss)] _ 4 _ (by simp) HK.out ?_) (.tuple #[])).mono ?_; (exact errs4 _ _ _ _ _ _ (by simp)); rintro e w' (⟨rfl, rfl⟩ | ⟨hF, rfl, rfl⟩); (refine ⟨rfl, rfl, grow_trans hW ?_⟩; go_split_ands; repeat (first | assumption | exact Below.refl _ _ | refine grow_drew ?_ | refine grow_alloc ?_ _ | refine grow_trans ?_ (by assumption)))))
  exact (‹Hid False› : Hid False).out.elim
end Go.Proofs.Ytcgpkonfneofdaa
