/-
  
  Conditions: those that each theorem states.
-/
import Derived.Test.YtebjkmknhpgemaaGreatUPlaceB
set_option maxRecDepth 100000
namespace Go.Proofs.YtebjkmknhpgemaaGreat
open Go.RowKit
theorem cI {l : List TxA} (h : fL l = 0) (k : Nat) (hk : k < l.length) : eB (l.getD k x0) = 0 := by
 have h8 := dV h
 unfold fL at h
 rw [if_neg (by omega)] at h
 exact fS eB l x0 h k hk
theorem ext2' {W w' : World} {p1 p2 : Addr} {v1 v2 : Value} (hb : Below W.heap.size W w') (q1 : W.cell? p1 = some v1) (q2 : W.cell? p2 = some v2) :
  Below W.heap.size W w' ∧ w'.cell? p1 = some v1 ∧ w'.cell? p2 = some v2 := ⟨hb, aA hb q1, aA hb q2⟩
def aJ (l : List TxA) (k : Nat) : List (Int × Bool) := aZ (l.getD k x0).rs (aI (l.getD k x0).ss) 8
def aM (L : List (Int × Bool)) : List Int := L.map Prod.fst
def aL (L : List (Int × Bool)) : List Int := (L.filter Prod.snd).map Prod.fst
theorem kL (rs ks : List Int) : ∀ n, ∀ p ∈ aZ rs ks n, 0 ≤ p.1 ∧ p.1 < n
 | 0, p, h => by cases h
 | n + 1, p, h => by
  rw [aZ, List.mem_append] at h
  rcases h with h | h
  ·have := kL rs ks n p h
   omega
  ·by_cases c : (n : Int) ∈ ks ∨ (n : Int) ∈ rs
   ·rw [if_pos c] at h
    simp only [List.mem_singleton] at h
    subst h
    exact ⟨by simp, by simp; omega⟩
   ·rw [if_neg c] at h; cases h
theorem qZ (l : List TxA) (k : Nat) : ∀ i, i < (aM (aJ l k)).length → 0 ≤ (aM (aJ l k)).getD i 0 ∧ (aM (aJ l k)).getD i 0 < 8 := fun i hi => by
 have hm : (aM (aJ l k)).getD i 0 ∈ aM (aJ l k) := by simp [List.getD, hi]
 obtain ⟨p, hp, he⟩ := List.mem_map.1 hm
 have := kL _ _ _ p hp
 rw [← he]
 exact this
theorem qQ (l : List TxA) (k : Nat) : ∀ i, i < (aL (aJ l k)).length → 0 ≤ (aL (aJ l k)).getD i 0 ∧ (aL (aJ l k)).getD i 0 < 8 := fun i hi => by
 have hm : (aL (aJ l k)).getD i 0 ∈ aL (aJ l k) := by simp [List.getD, hi]
 obtain ⟨p, hp, he⟩ := List.mem_map.1 hm
 have := kL _ _ _ p (List.mem_filter.1 hp).1
 rw [← he]
 exact this
theorem mV (l : List TxA) (k : Nat) : (aJ l k).length ≤ 8 := jE _ _ _
theorem keysIn_take (L : List (Int × Bool)) (k : Nat) (h : k < L.length) : aM (L.take (k + 1)) = aM (L.take k) ++ [(L.getD k (0, false)).1] := by
 rw [List.take_succ_eq_append_getElem h]
 unfold aM
 rw [List.map_append]
 congr 1
 simp [List.getD, h]
theorem setsIn_take (L : List (Int × Bool)) (k : Nat) (h : k < L.length) : aL (L.take (k + 1)) = aL (L.take k) ++ (if (L.getD k (0, false)).2 then [(L.getD k (0, false)).1] else []) := by
 rw [List.take_succ_eq_append_getElem h]
 have e : L.getD k (0, false) = L[k] := by simp [List.getD, h]
 rw [e]
 unfold aL
 rw [List.filter_append, List.map_append]
 congr 1
 by_cases c : L[k].2 = true
 ·rw [if_pos c]; simp [c]
 ·rw [if_neg c]; simp [c]
variable (la : Option Addr) (lc : Nat) (l : List TxA) (m n : Int)
set_option maxHeartbeats 4000000 in
theorem oL (k : Nat) (w : World) (hl : IsTxs w la l) (he : pnE m l k = 0) :
  Calls Tryz.prog 89 #[.agg #[.int .i64 m, .slice la l.length lc], .int .i64 k] w fun e w' => ∃ a c, e = .returned (.slice a (aJ l k).length c) ∧ IsLks w' a (aJ l k) ∧ Below w.heap.size w w' := by
 obtain ⟨hp, hn⟩ := gP he
 have hkl : k < l.length := by have := kJ hn; omega
 have hl8 := dV (aX hp).2.2
 have HE : Hid (aF [aP m l, iX k l.length] = 0) := he
 have HC : Hid (eB (l.getD k x0) = 0) := cI (aX hp).2.2 k hkl
 have hW : Hid (Below w.heap.size w (w.alloc (.cells #[.int .i64 m, .slice la l.length lc] 24))) := aB (Below.refl _ _) _
 have HLW : Hid (IsTxs (w.alloc (.cells #[.int .i64 m, .slice la l.length lc] 24)) la l) := hl.below hW.out
 have y0 : (w.alloc (.cells #[.int .i64 m, .slice la l.length lc] 24)).cell? ⟨w.heap.size, 0, none⟩ = some (.int .i64 m) := by simp
 have y1 : (w.alloc (.cells #[.int .i64 m, .slice la l.length lc] 24)).cell? ⟨w.heap.size, 1, none⟩ = some (.slice la l.length lc) := by simp
 have hlk : Hid (lksOf (l.getD k x0).rs (l.getD k x0).gs (l.getD k x0).ss = aJ l k) := if_pos HC.out
 clear hl he hp hn
 generalize aJ l k = L at *
 go_enter Tryz.func89, Tryz.ntmps89
 go_wp2_with fail
 generalize w.alloc (.cells #[.int .i64 m, .slice la l.length lc] 24) = W at *
 go_region_held3 (fun w' => Below W.heap.size W w' ∧ w'.cell? ⟨w.heap.size, 0, none⟩ = some (.int .i64 m) ∧ w'.cell? ⟨w.heap.size, 1, none⟩ = some (.slice la l.length lc)) ((go_split_ands; refine ext2' ?_ y0 y1; repeat (first | assumption | exact Below.refl _ _ | refine aD ?_ | refine aB ?_ _ | refine aC ?_ (by assumption))))
  (first
   | (go_at_call 128; refine (pG la lc l m k _).mono ?_; rintro e w' ⟨rfl, hby⟩)
   | (go_at_call 44; refine (cN la lc l m _ ?_).mono ?_; (refine HLW.out.below ?_; go_split_ands; repeat (first | assumption | exact Below.refl _ _ | refine aD ?_ | refine aB ?_ _ | refine aC ?_ (by assumption))); rintro e w' ⟨rfl, hbx⟩)
   | (go_at_call 43; refine (aV [aP m l, iX k l.length] _ 2 _ (by simp) HE.out ?_).mono ?_; (exact nA _ _ _ _ (by simp)); rintro e w' ⟨rfl, rfl⟩))
 all_goals (
  go_split_ands
  obtain ⟨b, off, rfl, hb, c0, c1, c2, hx⟩ := HLW.out k hkl
  have d0 := aA (by assumption) c0
  have d1 := aA (by assumption) c1
  have d2 := aA (by assumption) c2
  have HX := hx.t.below (by assumption)
  have hch : Hid (bF (l.getD k x0).rs (l.getD k x0).gs (l.getD k x0).ss = 0) := HC.out
  clear c0 c1 c2 hx
  generalize l.getD k x0 = x at *
  obtain ⟨ra, ga, sa, rc, gc, sc, rs, gs, ss⟩ := x
  simp only at d0 d1 d2 HX hlk hch
  have HX' := HX
  go_wp2_with fail
  refine (locks_any ra ga sa rc gc sc rs gs ss _ HX').mono ?_
  rintro e w2 ⟨a, cap, rfl, hL, hb2⟩
  rw [hlk.out] at hL ⊢
  rw [hch.out]
  have B2 : Hid (Below w.heap.size w w2) := aC hW.out (aC (by assumption) hb2)
  have hL2 : Hid (IsLks (w2.alloc (.cells #[.int .i64 0] 30)) a L) := hL.below (aB (Below.refl _ _) _)
  clear hL hb2 HX HX' d0 d1 d2
  go_wp2_with fail
  refine (mY a _ cap _).mono ?_
  rintro e w3 ⟨rfl, rfl⟩
  go_wp2
  go_ret
  exact ⟨a, cap, rfl, hL2.out, aB B2.out _⟩)
set_option maxHeartbeats 4000000 in
theorem part1_ok (sh k p q : Nat) (w : World) (h0 : w.cell? ⟨p, 0, none⟩ = some (.int .i64 sh)) (h1 : w.cell? ⟨p, 1, none⟩ = some (.slice la l.length lc)) (h2 : w.cell? ⟨q, 0, none⟩ = some (.int .i64 k)) (hl : IsTxs w la l) (he : pnE sh l k = 0) :
  Calls Tryz.prog 88 #[.pointer (some ⟨p, 0, none⟩), .pointer (some ⟨q, 0, none⟩)] w fun e w' => ∃ g cap, e = .returned (.slice (some ⟨g, 0, none⟩) sh cap) ∧ w'.ownsRow w.heap.size 4 1 (.slice (some ⟨g, 0, none⟩) sh cap) sh ((aQ sh (aM (aJ l k))).map Value.bool) ∧ Below w.heap.size w w' := by
 obtain ⟨i0, hi, hz0, hz1, hz2⟩ := info_parts Tryz.info3
 have hsh := aX (gP he).1
 have s0 : 0 < sh := by omega
 have s4 : sh ≤ 4 := by omega
 have HP : Hid (Calls Tryz.prog 89 #[.agg #[.int .i64 sh, .slice la l.length lc], .int .i64 k] w fun e w' => ∃ a c, e = .returned (.slice a (aJ l k).length c) ∧ IsLks w' a (aJ l k) ∧ Below w.heap.size w w') := oL la lc l sh k w hl he
 have HL8 : (aJ l k).length ≤ 8 := mV l k
 have HSH : Hid (∀ (ka : Option Addr) (kc : Nat) (w : World), IsInts w ka (aM (aJ l k)) → Calls Tryz.prog 90 #[.agg #[.int .i64 sh, .slice la l.length lc], .slice ka (aJ l k).length kc] w fun e w' => ∃ g cap, e = .returned (.slice (some ⟨g, 0, none⟩) sh cap) ∧ w'.ownsRow w.heap.size 4 1 (.slice (some ⟨g, 0, none⟩) sh cap) sh ((aQ sh (aM (aJ l k))).map Value.bool) ∧ Below w.heap.size w w') := fun ka kc w hk => by
  have hlen : (aM (aJ l k)).length = (aJ l k).length := List.length_map _
  have h := kT la lc l sh ka kc (aM (aJ l k)) w s0 s4 hk (by rw [hlen]; omega) (qZ l k)
  rw [hlen] at h
  exact h
 clear hl he hsh s0 s4
 generalize aJ l k = L at *
 go_enter Tryz.func88, Tryz.ntmps88
 go_wp2_with fail
 refine HP.out.mono ?_
 clear HP
 rintro e w1 ⟨a, c, rfl, hL, hb⟩
 have HL : Hid (IsLks w1 a L) := hL
 have HB : Hid (Below w.heap.size w w1) := hb
 clear hL
 have y0 := aA hb h0
 have y1 := aA hb h1
 clear hb h0 h1 h2
 go_wp2
 go_loopw [3, 5, 10] (fun v _ i wr => ∃ k : Nat, k ≤ L.length ∧ i = .int .i64 k ∧ wr.ownsRow w1.heap.size 3 1 v k ((aM (L.take k)).map (Value.int .i64)) ∧ Below w1.heap.size w1 wr) (fun _ _ i _ => L.length - (intOf i).toNat)
 case atStart => exact ⟨0, Nat.zero_le _, rfl, World.ownsRow_nil _ _ _ _, Below.refl _ _⟩
 case round =>
  obtain ⟨j, hj, rfl, hown, hnx⟩ := hrel
  have hsz := hnx.size
  by_cases hlt : j < L.length
  ·obtain ⟨b, off, rfl, hb, c0, c1⟩ := HL.out j hlt
   have d0 := aA hnx c0
   have d1 := aA hnx c1
   have HT : Hid (aM (L.take (j + 1)) = aM (L.take j) ++ [(L.getD j (0, false)).1]) := keysIn_take L j hlt
   clear c0 c1
   generalize (L.getD j (0, false)) = pr at *
   obtain ⟨z, z'⟩ := pr
   simp only at d0 d1 HT
   go_wp2_with (first
    | (at_builtin; refine wpList_append_own _ rfl _ _ 25 rfl w1.heap.size 3 i0 (.int .i64 0) 1 8 Tryz.underlying25 hi hz0 hz1 hz2 rfl (by decide) _ _ _ rfl ((hown.alloc _).alloc _) ⟨wr.heap.size + 1, 0, none⟩ 1 1 [.int .i64 z] rfl rfl (jM _ _ _ (by simp)) (ints_oneCell .i64 [z]) (by unfold maxLen; omega) (by omega) (by simp; omega) ?_; intro v' w2 hown' hgrow _)
    | go_in)
   have R : w2.ownsRow w1.heap.size 3 1 v' (j + 1) ((aM (L.take (j + 1))).map (Value.int .i64)) := by rw [HT.out, List.map_append]; exact hown'
   have RB := (((hnx.alloc (by omega) _).alloc (by simp; omega) _).grown hgrow (by simp; omega) (fun j hj => (hown.lt j hj).1))
   clear hown' hgrow hown hnx d0 d1
   go_wp2
   go_roundw
   case rel => exact ⟨j + 1, by omega, by go_num, R, RB⟩
   case measure => simp [intOf]; omega
  ·have hjj : j = L.length := by omega
   rw [hjj, List.take_of_length_le (Nat.le_refl _)] at hown
   have hlen : (aM L).length = L.length := List.length_map _
   obtain ⟨ka, kc, hv, hk⟩ := iS hown
   rw [hlen] at hv
   subst hv
   have z0 := aA hnx y0
   have z1 := aA hnx y1
   have B2 : Hid (Below w.heap.size w wr) := aC HB.out hnx
   have HK : Hid (IsInts wr ka (aM L)) := hk
   clear hown hnx hk hjj hj
   go_wp2_with fail
   refine (HSH.out ka kc _ HK.out).mono ?_
   rintro e w3 ⟨g, cap, rfl, ho, hb3⟩
   have ho2 : Hid (w3.ownsRow w.heap.size 4 1 (.slice (some ⟨g, 0, none⟩) sh cap) sh ((aQ sh (aM L)).map Value.bool)) := gZ ho B2.out.size
   have B3 : Hid (Below w.heap.size w w3) := aC B2.out hb3
   clear ho hb3 z0 z1
   go_wp2
   go_ret
   exact ⟨g, cap, rfl, ho2.out, B3.out⟩
set_option maxHeartbeats 4000000 in
theorem active1_ok (sh k p q : Nat) (w : World) (h0 : w.cell? ⟨p, 0, none⟩ = some (.int .i64 sh)) (h1 : w.cell? ⟨p, 1, none⟩ = some (.slice la l.length lc)) (h2 : w.cell? ⟨q, 0, none⟩ = some (.int .i64 k)) (hl : IsTxs w la l) (he : pnE sh l k = 0) :
  Calls Tryz.prog 91 #[.pointer (some ⟨p, 0, none⟩), .pointer (some ⟨q, 0, none⟩)] w fun e w' => ∃ g cap, e = .returned (.slice (some ⟨g, 0, none⟩) sh cap) ∧ w'.ownsRow w.heap.size 4 1 (.slice (some ⟨g, 0, none⟩) sh cap) sh ((aQ sh (aL (aJ l k))).map Value.bool) ∧ Below w.heap.size w w' := by
 obtain ⟨i0, hi, hz0, hz1, hz2⟩ := info_parts Tryz.info3
 have hsh := aX (gP he).1
 have s0 : 0 < sh := by omega
 have s4 : sh ≤ 4 := by omega
 have HP : Hid (Calls Tryz.prog 89 #[.agg #[.int .i64 sh, .slice la l.length lc], .int .i64 k] w fun e w' => ∃ a c, e = .returned (.slice a (aJ l k).length c) ∧ IsLks w' a (aJ l k) ∧ Below w.heap.size w w') := oL la lc l sh k w hl he
 have HL8 : (aJ l k).length ≤ 8 := mV l k
 have HSH : Hid (∀ (ka : Option Addr) (kc : Nat) (w : World), IsInts w ka (aL (aJ l k)) → Calls Tryz.prog 90 #[.agg #[.int .i64 sh, .slice la l.length lc], .slice ka (aL (aJ l k)).length kc] w fun e w' => ∃ g cap, e = .returned (.slice (some ⟨g, 0, none⟩) sh cap) ∧ w'.ownsRow w.heap.size 4 1 (.slice (some ⟨g, 0, none⟩) sh cap) sh ((aQ sh (aL (aJ l k))).map Value.bool) ∧ Below w.heap.size w w') := fun ka kc w hk => by
  have hlen : (aL (aJ l k)).length ≤ (aJ l k).length := by unfold aL; rw [List.length_map]; exact List.length_filter_le _ _
  exact kT la lc l sh ka kc (aL (aJ l k)) w s0 s4 hk (by omega) (qQ l k)
 clear hl he hsh s0 s4
 generalize aJ l k = L at *
 go_enter Tryz.func91, Tryz.ntmps91
 go_wp2_with fail
 refine HP.out.mono ?_
 clear HP
 rintro e w1 ⟨a, c, rfl, hL, hb⟩
 have HL : Hid (IsLks w1 a L) := hL
 have HB : Hid (Below w.heap.size w w1) := hb
 clear hL
 have y0 := aA hb h0
 have y1 := aA hb h1
 clear hb h0 h1 h2
 go_wp2
 go_loopw [3, 5, 10] (fun v _ i wr => ∃ k : Nat, k ≤ L.length ∧ i = .int .i64 k ∧ wr.ownsRow w1.heap.size 3 1 v (aL (L.take k)).length ((aL (L.take k)).map (Value.int .i64)) ∧ Below w1.heap.size w1 wr) (fun _ _ i _ => L.length - (intOf i).toNat)
 case atStart => exact ⟨0, Nat.zero_le _, rfl, World.ownsRow_nil _ _ _ _, Below.refl _ _⟩
 case round =>
  obtain ⟨j, hj, rfl, hown, hnx⟩ := hrel
  have hsz := hnx.size
  by_cases hlt : j < L.length
  ·obtain ⟨b, off, rfl, hb, c0, c1⟩ := HL.out j hlt
   have d0 := aA hnx c0
   have d1 := aA hnx c1
   have HT : Hid (aL (L.take (j + 1)) = aL (L.take j) ++ (if (L.getD j (0, false)).2 then [(L.getD j (0, false)).1] else [])) := setsIn_take L j hlt
   have hsl : (aL (L.take j)).length ≤ j := by
    unfold aL
    rw [List.length_map]
    refine Nat.le_trans (List.length_filter_le _ _) ?_
    rw [List.length_take]
    omega
   clear c0 c1
   generalize (L.getD j (0, false)) = pr at *
   obtain ⟨z, z'⟩ := pr
   simp only at d0 d1 HT
   cases z' with
   | true =>
    have HTT : Hid (aL (L.take (j + 1)) = aL (L.take j) ++ [z]) := HT.out
    clear HT
    go_wp2_with (first
     | (at_builtin; refine wpList_append_own _ rfl _ _ 25 rfl w1.heap.size 3 i0 (.int .i64 0) 1 8 Tryz.underlying25 hi hz0 hz1 hz2 rfl (by decide) _ _ _ rfl ((hown.alloc _).alloc _) ⟨wr.heap.size + 1, 0, none⟩ 1 1 [.int .i64 z] rfl rfl (jM _ _ _ (by simp)) (ints_oneCell .i64 [z]) (by unfold maxLen; omega) (by omega) (by simp; omega) ?_; intro v' w2 hown' hgrow _)
     | go_in)
    have R : w2.ownsRow w1.heap.size 3 1 v' (aL (L.take (j + 1))).length ((aL (L.take (j + 1))).map (Value.int .i64)) := by rw [HTT.out, List.map_append, List.length_append]; exact hown'
    have RB := (((hnx.alloc (by omega) _).alloc (by simp; omega) _).grown hgrow (by simp; omega) (fun j hj => (hown.lt j hj).1))
    clear hown' hgrow hown hnx d0 d1
    go_wp2
    go_roundw
    case rel => exact ⟨j + 1, by omega, by go_num, R, RB⟩
    case measure => simp [intOf]; omega
   | false =>
    have HTT : Hid (aL (L.take (j + 1)) = aL (L.take j)) := by show _ = _; rw [HT.out]; simp
    clear HT
    go_wp2_with go_in
    have R : (wr.alloc (.cells #[.int .i64 z, .bool false] 134)).ownsRow w1.heap.size 3 1 u3 (aL (L.take (j + 1))).length ((aL (L.take (j + 1))).map (Value.int .i64)) := by rw [HTT.out]; exact hown.alloc _
    have RB : Below w1.heap.size w1 (wr.alloc (.cells #[.int .i64 z, .bool false] 134)) := hnx.alloc (by omega) _
    clear hown hnx d0 d1
    go_wp2
    go_roundw
    case rel => exact ⟨j + 1, by omega, by go_num, R, RB⟩
    case measure => simp [intOf]; omega
  ·have hjj : j = L.length := by omega
   rw [hjj, List.take_of_length_le (Nat.le_refl _)] at hown
   obtain ⟨ka, kc, hv, hk⟩ := iS hown
   subst hv
   have z0 := aA hnx y0
   have z1 := aA hnx y1
   have B2 : Hid (Below w.heap.size w wr) := aC HB.out hnx
   have HK : Hid (IsInts wr ka (aL L)) := hk
   clear hown hnx hk hjj hj
   go_wp2_with fail
   refine (HSH.out ka kc _ HK.out).mono ?_
   rintro e w3 ⟨g, cap, rfl, ho, hb3⟩
   have ho2 : Hid (w3.ownsRow w.heap.size 4 1 (.slice (some ⟨g, 0, none⟩) sh cap) sh ((aQ sh (aL L)).map Value.bool)) := gZ ho B2.out.size
   have B3 : Hid (Below w.heap.size w w3) := aC B2.out hb3
   clear ho hb3 z0 z1
   go_wp2
   go_ret
   exact ⟨g, cap, rfl, ho2.out, B3.out⟩
end Go.Proofs.YtebjkmknhpgemaaGreat
