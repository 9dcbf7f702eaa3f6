/-
  
  Conditions: those that each theorem states.
-/
import Derived.Test.YtcgpkonfneofdaaGreatSPlaceB
set_option maxRecDepth 100000
namespace Go.Proofs.YtcgpkonfneofdaaGreat
open Go.RowKit
theorem chkL_in {l : List TxA} (h : chkL l = 0) (k : Nat) (hk : k < l.length) : chkX (l.getD k x0) = 0 := by
 have h8 := chkL_small h
 unfold chkL at h
 rw [if_neg (by omega)] at h
 exact map_zero chkX l x0 h k hk
theorem ext2' {W w' : World} {p1 p2 : Addr} {v1 v2 : Value} (hb : Below W.heap.size W w') (q1 : W.cell? p1 = some v1) (q2 : W.cell? p2 = some v2) :
  Below W.heap.size W w' ∧ w'.cell? p1 = some v1 ∧ w'.cell? p2 = some v2 := ⟨hb, ext_cell hb q1, ext_cell hb q2⟩
def locksAt (l : List TxA) (k : Nat) : List (Int × Bool) := lkTo (l.getD k x0).rs (keysOf (l.getD k x0).ss) 8
def keysIn (L : List (Int × Bool)) : List Int := L.map Prod.fst
def setsIn (L : List (Int × Bool)) : List Int := (L.filter Prod.snd).map Prod.fst
theorem lkTo_range (rs ks : List Int) : ∀ n, ∀ p ∈ lkTo rs ks n, 0 ≤ p.1 ∧ p.1 < n
 | 0, p, h => by cases h
 | n + 1, p, h => by
  rw [lkTo, List.mem_append] at h
  rcases h with h | h
  ·have := lkTo_range rs ks n p h
   omega
  ·by_cases c : (n : Int) ∈ ks ∨ (n : Int) ∈ rs
   ·rw [if_pos c] at h
    simp only [List.mem_singleton] at h
    subst h
    exact ⟨by simp, by simp; omega⟩
   ·rw [if_neg c] at h; cases h
theorem keysIn_range (l : List TxA) (k : Nat) : ∀ i, i < (keysIn (locksAt l k)).length → 0 ≤ (keysIn (locksAt l k)).getD i 0 ∧ (keysIn (locksAt l k)).getD i 0 < 8 := fun i hi => by
 have hm : (keysIn (locksAt l k)).getD i 0 ∈ keysIn (locksAt l k) := by simp [List.getD, hi]
 obtain ⟨p, hp, he⟩ := List.mem_map.1 hm
 have := lkTo_range _ _ _ p hp
 rw [← he]
 exact this
theorem setsIn_range (l : List TxA) (k : Nat) : ∀ i, i < (setsIn (locksAt l k)).length → 0 ≤ (setsIn (locksAt l k)).getD i 0 ∧ (setsIn (locksAt l k)).getD i 0 < 8 := fun i hi => by
 have hm : (setsIn (locksAt l k)).getD i 0 ∈ setsIn (locksAt l k) := by simp [List.getD, hi]
 obtain ⟨p, hp, he⟩ := List.mem_map.1 hm
 have := lkTo_range _ _ _ p (List.mem_filter.1 hp).1
 rw [← he]
 exact this
theorem locksAt_len (l : List TxA) (k : Nat) : (locksAt l k).length ≤ 8 := lkTo_len _ _ _
theorem keysIn_take (L : List (Int × Bool)) (k : Nat) (h : k < L.length) : keysIn (L.take (k + 1)) = keysIn (L.take k) ++ [(L.getD k (0, false)).1] := by
 rw [List.take_succ_eq_append_getElem h]
 unfold keysIn
 rw [List.map_append]
 congr 1
 simp [List.getD, h]
theorem setsIn_take (L : List (Int × Bool)) (k : Nat) (h : k < L.length) : setsIn (L.take (k + 1)) = setsIn (L.take k) ++ (if (L.getD k (0, false)).2 then [(L.getD k (0, false)).1] else []) := by
 rw [List.take_succ_eq_append_getElem h]
 have e : L.getD k (0, false) = L[k] := by simp [List.getD, h]
 rw [e]
 unfold setsIn
 rw [List.filter_append, List.map_append]
 congr 1
 by_cases c : L[k].2 = true
 ·rw [if_pos c]; simp [c]
 ·rw [if_neg c]; simp [c]
variable (la : Option Addr) (lc : Nat) (l : List TxA) (m n : Int)
set_option maxHeartbeats 4000000 in
theorem locksOf_ok (k : Nat) (w : World) (hl : IsTxs w la l) (he : pnE m l k = 0) :
  Calls Tryz.prog 95 #[.agg #[.int .i64 m, .slice la l.length lc], .int .i64 k] w fun e w' => ∃ a c, e = .returned (.slice a (locksAt l k).length c) ∧ IsLks w' a (locksAt l k) ∧ Below w.heap.size w w' := by
 obtain ⟨hp, hn⟩ := pnE_zero he
 have hkl : k < l.length := by have := noneE_zero hn; omega
 have hl8 := chkL_small (planE_zero hp).2.2
 have HE : Hid (firstNZ [planE m l, noneE k l.length] = 0) := he
 have HC : Hid (chkX (l.getD k x0) = 0) := chkL_in (planE_zero hp).2.2 k hkl
 have hW : Hid (Below w.heap.size w (w.alloc (.cells #[.int .i64 m, .slice la l.length lc] 24))) := grow_alloc (Below.refl _ _) _
 have HLW : Hid (IsTxs (w.alloc (.cells #[.int .i64 m, .slice la l.length lc] 24)) la l) := hl.below hW.out
 have y0 : (w.alloc (.cells #[.int .i64 m, .slice la l.length lc] 24)).cell? ⟨w.heap.size, 0, none⟩ = some (.int .i64 m) := by simp
 have y1 : (w.alloc (.cells #[.int .i64 m, .slice la l.length lc] 24)).cell? ⟨w.heap.size, 1, none⟩ = some (.slice la l.length lc) := by simp
 have hlk : Hid (lksOf (l.getD k x0).rs (l.getD k x0).gs (l.getD k x0).ss = locksAt l k) := if_pos HC.out
 clear hl he hp hn
 generalize locksAt l k = L at *
 go_enter Tryz.func95, Tryz.ntmps95
 go_wp2_with fail
 generalize w.alloc (.cells #[.int .i64 m, .slice la l.length lc] 24) = W at *
 go_region_held3 (fun w' => Below W.heap.size W w' ∧ w'.cell? ⟨w.heap.size, 0, none⟩ = some (.int .i64 m) ∧ w'.cell? ⟨w.heap.size, 1, none⟩ = some (.slice la l.length lc)) ((go_split_ands; refine ext2' ?_ y0 y1; repeat (first | assumption | exact Below.refl _ _ | refine grow_drew ?_ | refine grow_alloc ?_ _ | refine grow_trans ?_ (by assumption))))
  (first
   | (go_at_call 118; refine (noneError_any la lc l m k _).mono ?_; rintro e w' ⟨rfl, hby⟩)
   | (go_at_call 37; refine (placeCheck_any la lc l m _ ?_).mono ?_; (refine HLW.out.below ?_; go_split_ands; repeat (first | assumption | exact Below.refl _ _ | refine grow_drew ?_ | refine grow_alloc ?_ _ | refine grow_trans ?_ (by assumption))); rintro e w' ⟨rfl, hbx⟩)
   | (go_at_call 13; refine (leave_zero [planE m l, noneE k l.length] _ 2 _ (by simp) HE.out ?_).mono ?_; (exact errs2 _ _ _ _ (by simp)); rintro e w' ⟨rfl, rfl⟩))
 all_goals (
  go_split_ands
  obtain ⟨b, off, rfl, hb, c0, c1, c2, hx⟩ := HLW.out k hkl
  have d0 := ext_cell (by assumption) c0
  have d1 := ext_cell (by assumption) c1
  have d2 := ext_cell (by assumption) c2
  have HX := hx.t.below (by assumption)
  have hch : Hid (chkTx (l.getD k x0).rs (l.getD k x0).gs (l.getD k x0).ss = 0) := HC.out
  clear c0 c1 c2 hx
  generalize l.getD k x0 = x at *
  obtain ⟨ra, ga, sa, rc, gc, sc, rs, gs, ss⟩ := x
  simp only at d0 d1 d2 HX hlk hch
  have HX' := HX
  go_wp2_with fail
  refine (locks_any ra ga sa rc gc sc rs gs ss _ HX').mono ?_
  rintro e w2 ⟨a, cap, rfl, hL, hb2⟩
  rw [hlk.out] at hL ⊢
  rw [hch.out]
  have B2 : Hid (Below w.heap.size w w2) := grow_trans hW.out (grow_trans (by assumption) hb2)
  have hL2 : Hid (IsLks (w2.alloc (.cells #[.int .i64 0] 30)) a L) := hL.below (grow_alloc (Below.refl _ _) _)
  clear hL hb2 HX HX' d0 d1 d2
  go_wp2_with fail
  refine (gotLocks_ok a _ cap _).mono ?_
  rintro e w3 ⟨rfl, rfl⟩
  go_wp2
  go_ret
  exact ⟨a, cap, rfl, hL2.out, grow_alloc B2.out _⟩)
set_option maxHeartbeats 4000000 in
theorem part1_ok (sh k p q : Nat) (w : World) (h0 : w.cell? ⟨p, 0, none⟩ = some (.int .i64 sh)) (h1 : w.cell? ⟨p, 1, none⟩ = some (.slice la l.length lc)) (h2 : w.cell? ⟨q, 0, none⟩ = some (.int .i64 k)) (hl : IsTxs w la l) (he : pnE sh l k = 0) :
  Calls Tryz.prog 94 #[.pointer (some ⟨p, 0, none⟩), .pointer (some ⟨q, 0, none⟩)] w fun e w' => ∃ g cap, e = .returned (.slice (some ⟨g, 0, none⟩) sh cap) ∧ w'.ownsRow w.heap.size 4 1 (.slice (some ⟨g, 0, none⟩) sh cap) sh ((marks sh (keysIn (locksAt l k))).map Value.bool) ∧ Below w.heap.size w w' := by
 obtain ⟨i0, hi, hz0, hz1, hz2⟩ := info_parts Tryz.info3
 have hsh := planE_zero (pnE_zero he).1
 have s0 : 0 < sh := by omega
 have s4 : sh ≤ 4 := by omega
 have HP : Hid (Calls Tryz.prog 95 #[.agg #[.int .i64 sh, .slice la l.length lc], .int .i64 k] w fun e w' => ∃ a c, e = .returned (.slice a (locksAt l k).length c) ∧ IsLks w' a (locksAt l k) ∧ Below w.heap.size w w') := locksOf_ok la lc l sh k w hl he
 have HL8 : (locksAt l k).length ≤ 8 := locksAt_len l k
 have HSH : Hid (∀ (ka : Option Addr) (kc : Nat) (w : World), IsInts w ka (keysIn (locksAt l k)) → Calls Tryz.prog 96 #[.agg #[.int .i64 sh, .slice la l.length lc], .slice ka (locksAt l k).length kc] w fun e w' => ∃ g cap, e = .returned (.slice (some ⟨g, 0, none⟩) sh cap) ∧ w'.ownsRow w.heap.size 4 1 (.slice (some ⟨g, 0, none⟩) sh cap) sh ((marks sh (keysIn (locksAt l k))).map Value.bool) ∧ Below w.heap.size w w') := fun ka kc w hk => by
  have hlen : (keysIn (locksAt l k)).length = (locksAt l k).length := List.length_map _
  have h := shardsOf_any la lc l sh ka kc (keysIn (locksAt l k)) w s0 s4 hk (by rw [hlen]; omega) (keysIn_range l k)
  rw [hlen] at h
  exact h
 clear hl he hsh s0 s4
 generalize locksAt l k = L at *
 go_enter Tryz.func94, Tryz.ntmps94
 go_wp2_with fail
 refine HP.out.mono ?_
 clear HP
 rintro e w1 ⟨a, c, rfl, hL, hb⟩
 have HL : Hid (IsLks w1 a L) := hL
 have HB : Hid (Below w.heap.size w w1) := hb
 clear hL
 have y0 := ext_cell hb h0
 have y1 := ext_cell hb h1
 clear hb h0 h1 h2
 go_wp2
 go_loopw [3, 5, 10] (fun v _ i wr => ∃ k : Nat, k ≤ L.length ∧ i = .int .i64 k ∧ wr.ownsRow w1.heap.size 3 1 v k ((keysIn (L.take k)).map (Value.int .i64)) ∧ Below w1.heap.size w1 wr) (fun _ _ i _ => L.length - (intOf i).toNat)
 case atStart => exact ⟨0, Nat.zero_le _, rfl, World.ownsRow_nil _ _ _ _, Below.refl _ _⟩
 case round =>
  obtain ⟨j, hj, rfl, hown, hnx⟩ := hrel
  have hsz := hnx.size
  by_cases hlt : j < L.length
  ·obtain ⟨b, off, rfl, hb, c0, c1⟩ := HL.out j hlt
   have d0 := ext_cell hnx c0
   have d1 := ext_cell hnx c1
   have HT : Hid (keysIn (L.take (j + 1)) = keysIn (L.take j) ++ [(L.getD j (0, false)).1]) := keysIn_take L j hlt
   clear c0 c1
   generalize (L.getD j (0, false)) = pr at *
   obtain ⟨z, z'⟩ := pr
   simp only at d0 d1 HT
   go_wp2_with (first
    | (at_builtin; refine wpList_append_own _ rfl _ _ 25 rfl w1.heap.size 3 i0 (.int .i64 0) 1 8 Tryz.underlying25 hi hz0 hz1 hz2 rfl (by decide) _ _ _ rfl ((hown.alloc _).alloc _) ⟨wr.heap.size + 1, 0, none⟩ 1 1 [.int .i64 z] rfl rfl (news_at _ _ _ (by simp)) (ints_oneCell .i64 [z]) (by unfold maxLen; omega) (by omega) (by simp; omega) ?_; intro v' w2 hown' hgrow _)
    | go_in)
   have R : w2.ownsRow w1.heap.size 3 1 v' (j + 1) ((keysIn (L.take (j + 1))).map (Value.int .i64)) := by rw [HT.out, List.map_append]; exact hown'
   have RB := (((hnx.alloc (by omega) _).alloc (by simp; omega) _).grown hgrow (by simp; omega) (fun j hj => (hown.lt j hj).1))
   clear hown' hgrow hown hnx d0 d1
   go_wp2
   go_roundw
   case rel => exact ⟨j + 1, by omega, by go_num, R, RB⟩
   case measure => simp [intOf]; omega
  ·have hjj : j = L.length := by omega
   rw [hjj, List.take_of_length_le (Nat.le_refl _)] at hown
   have hlen : (keysIn L).length = L.length := List.length_map _
   obtain ⟨ka, kc, hv, hk⟩ := ints_of_owns hown
   rw [hlen] at hv
   subst hv
   have z0 := ext_cell hnx y0
   have z1 := ext_cell hnx y1
   have B2 : Hid (Below w.heap.size w wr) := grow_trans HB.out hnx
   have HK : Hid (IsInts wr ka (keysIn L)) := hk
   clear hown hnx hk hjj hj
   go_wp2_with fail
   refine (HSH.out ka kc _ HK.out).mono ?_
   rintro e w3 ⟨g, cap, rfl, ho, hb3⟩
   have ho2 : Hid (w3.ownsRow w.heap.size 4 1 (.slice (some ⟨g, 0, none⟩) sh cap) sh ((marks sh (keysIn L)).map Value.bool)) := own_low ho B2.out.size
   have B3 : Hid (Below w.heap.size w w3) := grow_trans B2.out hb3
   clear ho hb3 z0 z1
   go_wp2
   go_ret
   exact ⟨g, cap, rfl, ho2.out, B3.out⟩
set_option maxHeartbeats 4000000 in
theorem active1_ok (sh k p q : Nat) (w : World) (h0 : w.cell? ⟨p, 0, none⟩ = some (.int .i64 sh)) (h1 : w.cell? ⟨p, 1, none⟩ = some (.slice la l.length lc)) (h2 : w.cell? ⟨q, 0, none⟩ = some (.int .i64 k)) (hl : IsTxs w la l) (he : pnE sh l k = 0) :
  Calls Tryz.prog 97 #[.pointer (some ⟨p, 0, none⟩), .pointer (some ⟨q, 0, none⟩)] w fun e w' => ∃ g cap, e = .returned (.slice (some ⟨g, 0, none⟩) sh cap) ∧ w'.ownsRow w.heap.size 4 1 (.slice (some ⟨g, 0, none⟩) sh cap) sh ((marks sh (setsIn (locksAt l k))).map Value.bool) ∧ Below w.heap.size w w' := by
 obtain ⟨i0, hi, hz0, hz1, hz2⟩ := info_parts Tryz.info3
 have hsh := planE_zero (pnE_zero he).1
 have s0 : 0 < sh := by omega
 have s4 : sh ≤ 4 := by omega
 have HP : Hid (Calls Tryz.prog 95 #[.agg #[.int .i64 sh, .slice la l.length lc], .int .i64 k] w fun e w' => ∃ a c, e = .returned (.slice a (locksAt l k).length c) ∧ IsLks w' a (locksAt l k) ∧ Below w.heap.size w w') := locksOf_ok la lc l sh k w hl he
 have HL8 : (locksAt l k).length ≤ 8 := locksAt_len l k
 have HSH : Hid (∀ (ka : Option Addr) (kc : Nat) (w : World), IsInts w ka (setsIn (locksAt l k)) → Calls Tryz.prog 96 #[.agg #[.int .i64 sh, .slice la l.length lc], .slice ka (setsIn (locksAt l k)).length kc] w fun e w' => ∃ g cap, e = .returned (.slice (some ⟨g, 0, none⟩) sh cap) ∧ w'.ownsRow w.heap.size 4 1 (.slice (some ⟨g, 0, none⟩) sh cap) sh ((marks sh (setsIn (locksAt l k))).map Value.bool) ∧ Below w.heap.size w w') := fun ka kc w hk => by
  have hlen : (setsIn (locksAt l k)).length ≤ (locksAt l k).length := by unfold setsIn; rw [List.length_map]; exact List.length_filter_le _ _
  exact shardsOf_any la lc l sh ka kc (setsIn (locksAt l k)) w s0 s4 hk (by omega) (setsIn_range l k)
 clear hl he hsh s0 s4
 generalize locksAt l k = L at *
 go_enter Tryz.func97, Tryz.ntmps97
 go_wp2_with fail
 refine HP.out.mono ?_
 clear HP
 rintro e w1 ⟨a, c, rfl, hL, hb⟩
 have HL : Hid (IsLks w1 a L) := hL
 have HB : Hid (Below w.heap.size w w1) := hb
 clear hL
 have y0 := ext_cell hb h0
 have y1 := ext_cell hb h1
 clear hb h0 h1 h2
 go_wp2
 go_loopw [3, 5, 10] (fun v _ i wr => ∃ k : Nat, k ≤ L.length ∧ i = .int .i64 k ∧ wr.ownsRow w1.heap.size 3 1 v (setsIn (L.take k)).length ((setsIn (L.take k)).map (Value.int .i64)) ∧ Below w1.heap.size w1 wr) (fun _ _ i _ => L.length - (intOf i).toNat)
 case atStart => exact ⟨0, Nat.zero_le _, rfl, World.ownsRow_nil _ _ _ _, Below.refl _ _⟩
 case round =>
  obtain ⟨j, hj, rfl, hown, hnx⟩ := hrel
  have hsz := hnx.size
  by_cases hlt : j < L.length
  ·obtain ⟨b, off, rfl, hb, c0, c1⟩ := HL.out j hlt
   have d0 := ext_cell hnx c0
   have d1 := ext_cell hnx c1
   have HT : Hid (setsIn (L.take (j + 1)) = setsIn (L.take j) ++ (if (L.getD j (0, false)).2 then [(L.getD j (0, false)).1] else [])) := setsIn_take L j hlt
   have hsl : (setsIn (L.take j)).length ≤ j := by
    unfold setsIn
    rw [List.length_map]
    refine Nat.le_trans (List.length_filter_le _ _) ?_
    rw [List.length_take]
    omega
   clear c0 c1
   generalize (L.getD j (0, false)) = pr at *
   obtain ⟨z, z'⟩ := pr
   simp only at d0 d1 HT
   cases z' with
   | true =>
    have HTT : Hid (setsIn (L.take (j + 1)) = setsIn (L.take j) ++ [z]) := HT.out
    clear HT
    go_wp2_with (first
     | (at_builtin; refine wpList_append_own _ rfl _ _ 25 rfl w1.heap.size 3 i0 (.int .i64 0) 1 8 Tryz.underlying25 hi hz0 hz1 hz2 rfl (by decide) _ _ _ rfl ((hown.alloc _).alloc _) ⟨wr.heap.size + 1, 0, none⟩ 1 1 [.int .i64 z] rfl rfl (news_at _ _ _ (by simp)) (ints_oneCell .i64 [z]) (by unfold maxLen; omega) (by omega) (by simp; omega) ?_; intro v' w2 hown' hgrow _)
     | go_in)
    have R : w2.ownsRow w1.heap.size 3 1 v' (setsIn (L.take (j + 1))).length ((setsIn (L.take (j + 1))).map (Value.int .i64)) := by rw [HTT.out, List.map_append, List.length_append]; exact hown'
    have RB := (((hnx.alloc (by omega) _).alloc (by simp; omega) _).grown hgrow (by simp; omega) (fun j hj => (hown.lt j hj).1))
    clear hown' hgrow hown hnx d0 d1
    go_wp2
    go_roundw
    case rel => exact ⟨j + 1, by omega, by go_num, R, RB⟩
    case measure => simp [intOf]; omega
   | false =>
    have HTT : Hid (setsIn (L.take (j + 1)) = setsIn (L.take j)) := by show _ = _; rw [HT.out]; simp
    clear HT
    go_wp2_with go_in
    have R : (wr.alloc (.cells #[.int .i64 z, .bool false] 149)).ownsRow w1.heap.size 3 1 u3 (setsIn (L.take (j + 1))).length ((setsIn (L.take (j + 1))).map (Value.int .i64)) := by rw [HTT.out]; exact hown.alloc _
    have RB : Below w1.heap.size w1 (wr.alloc (.cells #[.int .i64 z, .bool false] 149)) := hnx.alloc (by omega) _
    clear hown hnx d0 d1
    go_wp2
    go_roundw
    case rel => exact ⟨j + 1, by omega, by go_num, R, RB⟩
    case measure => simp [intOf]; omega
  ·have hjj : j = L.length := by omega
   rw [hjj, List.take_of_length_le (Nat.le_refl _)] at hown
   obtain ⟨ka, kc, hv, hk⟩ := ints_of_owns hown
   subst hv
   have z0 := ext_cell hnx y0
   have z1 := ext_cell hnx y1
   have B2 : Hid (Below w.heap.size w wr) := grow_trans HB.out hnx
   have HK : Hid (IsInts wr ka (setsIn L)) := hk
   clear hown hnx hk hjj hj
   go_wp2_with fail
   refine (HSH.out ka kc _ HK.out).mono ?_
   rintro e w3 ⟨g, cap, rfl, ho, hb3⟩
   have ho2 : Hid (w3.ownsRow w.heap.size 4 1 (.slice (some ⟨g, 0, none⟩) sh cap) sh ((marks sh (setsIn L)).map Value.bool)) := own_low ho B2.out.size
   have B3 : Hid (Below w.heap.size w w3) := grow_trans B2.out hb3
   clear ho hb3 z0 z1
   go_wp2
   go_ret
   exact ⟨g, cap, rfl, ho2.out, B3.out⟩
end Go.Proofs.YtcgpkonfneofdaaGreat
