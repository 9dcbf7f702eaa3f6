/-
  GraphSame walked: after a swap the same comes, in the store and of each transaction; swapped twice it is as it was.
  Conditions: the arguments can be read.
-/
import Derived.Test.YtikolifbljnokaaGraphG
import Derived.WalkKit
import Derived.WalkSpells
import Derived.WalkLawsBesides
import Derived.ProofKit
import Derived.Deep.RegionHeld3
import Derived.BigQuiet
import Derived.Deep.RegionLaw
import Derived.Deep.DeepCutAuto
import Derived.IntWalk
namespace Go.Proofs.Ytikolifbljnokaa
open Go.RowKit

/-- What comes hangs on what transactions say. -/
theorem aDone_core {x y : TxA} (h : x.core = y.core) (s : List Int) : aDone s x = aDone s y := by
  obtain ⟨h1, h2, _⟩ := core_parts h
  unfold aDone
  rw [h1, h2]
theorem aVals_core {x y : TxA} (h : x.core = y.core) (s : List Int) : aVals s x = aVals s y := by
  obtain ⟨h1, _, _⟩ := core_parts h
  unfold aVals
  rw [h1]
theorem aEnd_core {x y : TxA} (h : x.core = y.core) (s : List Int) : aEnd s x = aEnd s y := by
  obtain ⟨h1, h2, h3⟩ := core_parts h
  unfold aEnd aMade
  rw [h1, h2, h3]
theorem serEnd_core : ∀ (l m : List TxA) (s : List Int), l.map TxA.core = m.map TxA.core → serEnd s l = serEnd s m
  | [], [], _, _ => rfl
  | x :: l, y :: m, s, h => by
    injection h with h1 h2
    rw [serEnd, serEnd, aEnd_core h1, serEnd_core l m _ h2]
  | [], y :: m, _, h => by cases h
  | x :: l, [], _, h => by cases h
theorem serRes_core : ∀ (l m : List TxA) (s : List Int), l.map TxA.core = m.map TxA.core → serRes s l = serRes s m
  | [], [], _, _ => rfl
  | x :: l, y :: m, s, h => by
    injection h with h1 h2
    rw [serRes, serRes, aEnd_core h1, aDone_core h1, aVals_core h1, serRes_core l m _ h2]
  | [], y :: m, _, h => by cases h
  | x :: l, [], _, h => by cases h
theorem serE_core {l m : List TxA} (h : l.map TxA.core = m.map TxA.core) (s : List Int) : serE s l = serE s m := by
  unfold serE
  rw [chkL_core h]

/-- Two results change places. -/
def swapT (R : List (Bool × List Int)) (n : Nat) : List (Bool × List Int) := (R.set n (R.getD (n + 1) (false, []))).set (n + 1) (R.getD n (false, []))
theorem swapT_mid (A B : List (Bool × List Int)) (a b : Bool × List Int) : swapT (A ++ a :: b :: B) A.length = A ++ b :: a :: B := by
  unfold swapT
  have e1 : (A ++ a :: b :: B).getD (A.length + 1) (false, []) = b := by simp [List.getD]
  have e0 : (A ++ a :: b :: B).getD A.length (false, []) = a := by simp [List.getD]
  rw [e1, e0, List.set_append_right _ _ (by omega), List.set_append_right _ _ (by omega)]
  simp
theorem split_at (l : List TxA) (n : Nat) (h : n + 1 < l.length) : l = l.take n ++ l.getD n x0 :: l.getD (n + 1) x0 :: l.drop (n + 2) := by
  have h0 : n < l.length := by omega
  have e0 : l.getD n x0 = l[n] := by simp [List.getD, h0]
  have e1 : l.getD (n + 1) x0 = l[n + 1] := by simp [List.getD, h]
  rw [e0, e1]
  conv => lhs; rw [← List.take_append_drop n l, List.drop_eq_getElem_cons h0, List.drop_eq_getElem_cons h]
theorem swapX_split (l : List TxA) (n : Nat) (h : n + 1 < l.length) : swapX l n = l.take n ++ l.getD (n + 1) x0 :: l.getD n x0 :: l.drop (n + 2) := by
  have hs := split_at l n h
  have ht : (l.take n).length = n := by rw [List.length_take]; omega
  unfold swapX
  generalize l.getD n x0 = x at *
  generalize l.getD (n + 1) x0 = y at *
  generalize l.take n = A at *
  generalize l.drop (n + 2) = B at *
  rw [hs, List.set_append_right _ _ (by omega), ht, List.set_append_right _ _ (by omega), ht]
  simp
theorem swap_ends (l : List TxA) (n : Nat) (h : n + 1 < l.length) (gx : Good (gX l n)) (gy : Good (gX l (n + 1))) (hc : clashX (gX l n) (gX l (n + 1)) = false) (s : List Int) :
    serEnd s (swapX l n) = serEnd s l ∧ swapT (serRes s (swapX l n)) n = serRes s l := by
  have hs := split_at l n h
  rw [swapX_split l n h]
  have ht : (serRes s (l.take n)).length = n := by rw [serRes_len, List.length_take]; omega
  have gx' : Good (l.getD n x0) := gx
  have gy' : Good (l.getD (n + 1) x0) := gy
  have hc' : clashX (l.getD n x0) (l.getD (n + 1) x0) = false := hc
  clear gx gy hc
  generalize l.getD n x0 = x at *
  generalize l.getD (n + 1) x0 = y at *
  generalize l.take n = A at *
  generalize l.drop (n + 2) = B at *
  subst hs
  have hd : clashX y x = false := by rw [clashX_symm]; exact hc'
  constructor
  · rw [serEnd_app, serEnd_app, serEnd, serEnd, serEnd, serEnd, aEnd_swap gx' gy' hc']
  · rw [serRes_app, serRes_app, serRes, serRes, serRes, serRes]
    conv => lhs; rw [← ht]
    rw [swapT_mid, aEnd_swap gx' gy' hc', aDone_past gx' gy' hc', aVals_past gx' gy' hc', aDone_past gy' gx' hd, aVals_past gy' gx' hd]
theorem swapX_twice (l : List TxA) (n : Nat) (h : n + 1 < l.length) : swapX (swapX l n) n = l := by
  have hs := split_at l n h
  have h' : n + 1 < (swapX l n).length := by rw [swapX_len]; exact h
  have ht : (l.take n).length = n := by rw [List.length_take]; omega
  have e := swapX_split l n h
  rw [swapX_split _ n h', e]
  have a0 : (l.take n ++ l.getD (n + 1) x0 :: l.getD n x0 :: l.drop (n + 2)).getD n x0 = l.getD (n + 1) x0 := by
    have : (l.take n ++ l.getD (n + 1) x0 :: l.getD n x0 :: l.drop (n + 2))[n]? = some (l.getD (n + 1) x0) := by
      rw [List.getElem?_append_right (by omega), ht]; simp
    rw [List.getD_eq_getElem?_getD, this]; rfl
  have a1 : (l.take n ++ l.getD (n + 1) x0 :: l.getD n x0 :: l.drop (n + 2)).getD (n + 1) x0 = l.getD n x0 := by
    have : (l.take n ++ l.getD (n + 1) x0 :: l.getD n x0 :: l.drop (n + 2))[n + 1]? = some (l.getD n x0) := by
      rw [List.getElem?_append_right (by omega), ht]
      rw [show n + 1 - n = 1 by omega]; simp
    rw [List.getD_eq_getElem?_getD, this]; rfl
  have a2 : (l.take n ++ l.getD (n + 1) x0 :: l.getD n x0 :: l.drop (n + 2)).take n = l.take n := by
    exact List.take_left' ht
  have a3 : (l.take n ++ l.getD (n + 1) x0 :: l.getD n x0 :: l.drop (n + 2)).drop (n + 2) = l.drop (n + 2) := by
    rw [List.drop_append, List.drop_of_length_le (by omega), ht, show n + 2 - n = 2 by omega]; rfl
  rw [a0, a1, a2, a3]
  exact hs.symm

/-- Results in a row of one's own. -/
def swapR (R : List RsA) (n : Nat) : List RsA := (R.set n (R.getD (n + 1) r0)).set (n + 1) (R.getD n r0)
def put2 (w : World) (g i : Nat) (r : RsA) : World := (w.setCell ⟨g, i * 2, none⟩ (.bool r.d)).setCell ⟨g, i * 2 + 1, none⟩ (.slice r.va r.vs.length r.vc)
theorem flatR_set : ∀ (l : List RsA) (i : Nat) (x : RsA), i < l.length → flatR (l.set i x) = ((flatR l).set (i * 2) (.bool x.d)).set (i * 2 + 1) (.slice x.va x.vs.length x.vc)
  | [], i, x, h => by simp at h
  | y :: t, 0, x, _ => by simp [flatR, rcells]
  | y :: t, i + 1, x, h => by
    have ih := flatR_set t i x (by simpa using h)
    have e1 : (i + 1) * 2 = i * 2 + 1 + 1 := by omega
    rw [List.set_cons_succ, e1]
    simp only [flatR, rcells, List.cons_append, List.nil_append, List.set_cons_succ]
    rw [ih]
theorem own_put2 {C : Nat} {w : World} {g cap : Nat} {l : List RsA} (h : w.ownsRow C 52 2 (.slice (some ⟨g, 0, none⟩) l.length cap) l.length (flatR l)) (i : Nat) (hi : i < l.length) (x : RsA) : (put2 w g i x).ownsRow C 52 2 (.slice (some ⟨g, 0, none⟩) l.length cap) l.length (flatR (l.set i x)) := by
  rw [flatR_set l i x hi]
  exact ((h.stored (i * 2) _).1.stored (i * 2 + 1) _).1
theorem own_swap2 {C : Nat} {w : World} {g cap : Nat} {l : List RsA} (h : w.ownsRow C 52 2 (.slice (some ⟨g, 0, none⟩) l.length cap) l.length (flatR l)) (n : Nat) (hn : n + 1 < l.length) : (put2 (put2 w g n (l.getD (n + 1) r0)) g (n + 1) (l.getD n r0)).ownsRow C 52 2 (.slice (some ⟨g, 0, none⟩) l.length cap) l.length (flatR (swapR l n)) := by
  have h1 := own_put2 h n (by omega) (l.getD (n + 1) r0)
  have h2 := own_put2 (l := l.set n (l.getD (n + 1) r0)) (by rw [List.length_set]; exact h1) (n + 1) (by rw [List.length_set]; exact hn) (l.getD n r0)
  rw [List.length_set] at h2
  exact h2
theorem swapR_mem {l : List RsA} {n : Nat} (hn : n + 1 < l.length) {x : RsA} (h : x ∈ swapR l n) : x ∈ l := by
  unfold swapR at h
  have m1 : l.getD (n + 1) r0 ∈ l := by simp [List.getD, hn]
  have m0 : l.getD n r0 ∈ l := by
    have : n < l.length := by omega
    simp [List.getD, this]
  rcases List.mem_or_eq_of_mem_set h with h | rfl
  · rcases List.mem_or_eq_of_mem_set h with h | rfl
    · exact h
    · exact m1
  · exact m0
theorem told_at (l : List RsA) (i : Nat) : (l.getD i r0).told = (l.map RsA.told).getD i (false, []) := by
  rw [List.getD_eq_getElem?_getD, List.getD_eq_getElem?_getD, List.getElem?_map]
  cases l[i]? <;> rfl
theorem swapR_told (l : List RsA) (n : Nat) : (swapR l n).map RsA.told = swapT (l.map RsA.told) n := by
  unfold swapR swapT
  rw [List.map_set, List.map_set, told_at, told_at]
theorem own_at2 {C : Nat} {w : World} {v : Value} {l : List RsA} (h : w.ownsRow C 52 2 v l.length (flatR l)) (h0 : 0 < l.length) : ∃ g cap, v = .slice (some ⟨g, 0, none⟩) l.length cap ∧ C ≤ g ∧ (∀ i, i < l.length → w.cell? ⟨g, i * 2, none⟩ = some (.bool (l.getD i r0).d) ∧ w.cell? ⟨g, i * 2 + 1, none⟩ = some (.slice (l.getD i r0).va (l.getD i r0).vs.length (l.getD i r0).vc)) ∧ ∀ j, w.frozen? ⟨g, j, none⟩ = false := by
  rcases h.2 with ⟨rfl, h1⟩ | ⟨g, cap, cur, rfl, hb, hg, hnc, hcm, hcs, htake⟩
  · omega
  · refine ⟨g, cap, rfl, hb, fun i hi => ?_, fun j => h.frozenAt j⟩
    obtain ⟨f0, f1⟩ := flatR_at l i hi
    have c0 := h.cellAt (i * 2) (by omega)
    have c1 := h.cellAt (i * 2 + 1) (by omega)
    exact ⟨c0.trans f0, c1.trans f1⟩

variable (sa : Option Addr) (sc : Nat) (s : List Int) (la : Option Addr) (lc : Nat) (l : List TxA)

set_option maxRecDepth 100000 in
set_option maxHeartbeats 8000000 in
theorem graphSame_go (k : Nat) (w : World) (hs : IsInts w sa s) (hl : IsTxs w la l) (hm : l.length ≤ maxLen) (hC : chkL l = 0) (hk : k + 1 < l.length) (hc : clashX (gX l k) (gX l (k + 1)) = false) :
    Calls Try.prog 5 #[.slice sa s.length sc, .slice la l.length lc, .int .i64 k] w fun e w' => e = .returned (.bool true) ∧ Below w.heap.size w w' := by
  obtain ⟨i0, hi, hz0, hz1, hz2⟩ := info_parts Try.info52
  have hl8 := chkL_small hC
  have hne : nextE k l.length = 0 := if_neg (by omega)
  have hF0 : firstNZ [chkL l, nextE k l.length] = 0 := by rw [hC, hne]; rfl
  have hsw : swE l k = 0 := by
    unfold swE
    rw [if_pos hF0, Int.toNat_natCast, hc]
    rfl
  have hsl : swL l k = swapX l k := if_pos hsw
  have hgx : Good (gX l k) := good_of (chkL_at0 hC k (by omega))
  have hgy : Good (gX l (k + 1)) := good_of (chkL_at0 hC (k + 1) hk)
  obtain ⟨hend, hres⟩ := swap_ends l k hk hgx hgy hc s
  have HS : Hid (IsInts w sa s) := hs
  have HL : Hid (IsTxs w la l) := hl
  have SW1 : Hid (Calls Try.prog 13 #[.slice la l.length lc, .int .i64 k] w fun e w' => ∃ a c cl, e = .returned (.tuple #[.slice a l.length c, .int .i64 0]) ∧ Hid (IsTxs w' a cl) ∧ Hid (cl.map TxA.core = (swapX l k).map TxA.core) ∧ Hid (cl.length = l.length) ∧ Below w.heap.size w w') := by
    refine (swap_any la lc l k w hl hm).mono ?_
    rintro e w' ⟨v, rfl, ⟨cl, hr, hcr⟩, hb⟩
    obtain ⟨a, c, rfl, hT⟩ := hr.txs
    rw [hsl] at hcr
    have hlen : cl.length = l.length := by rw [len_core hcr, swapX_len]
    rw [hsw, hlen]
    exact ⟨a, c, cl, rfl, hT, hcr, hlen, hb⟩
  have SW2 : Hid (∀ (cl : List TxA) (a : Option Addr) (c : Nat) (w : World), IsTxs w a cl → cl.map TxA.core = (swapX l k).map TxA.core → Calls Try.prog 13 #[.slice a l.length c, .int .i64 k] w fun e w' => ∃ a c bl, e = .returned (.tuple #[.slice a l.length c, .int .i64 0]) ∧ Hid (IsTxs w' a bl) ∧ Hid (bl.map TxA.core = l.map TxA.core) ∧ Hid (bl.length = l.length) ∧ Below w.heap.size w w') := fun cl a c w hT hcr => by
    have hlen : cl.length = l.length := by rw [len_core hcr, swapX_len]
    have hC' : chkL cl = 0 := by
      rw [chkL_core hcr]
      have h8 : (swapX l k).length ≤ 8 := by rw [swapX_len]; exact hl8
      unfold chkL
      rw [if_neg (by omega)]
      have : ∀ z ∈ (swapX l k).map chkX, z = 0 := by
        intro z hz
        obtain ⟨x, hx, rfl⟩ := List.mem_map.1 hz
        obtain ⟨i, hi', rfl⟩ := List.mem_iff_getElem.1 (swapX_mem hk hx)
        have h := chkL_at0 hC i hi'
        rw [show l.getD i x0 = l[i] by simp [List.getD, hi']] at h
        exact h
      generalize (swapX l k).map chkX = L at this
      induction L with
      | nil => rfl
      | cons a t ih =>
        unfold firstNZ
        rw [if_pos (this a List.mem_cons_self)]
        exact ih (fun z hz => this z (List.mem_cons_of_mem _ hz))
    have hcl' : clashX (gX cl k) (gX cl (k + 1)) = false := by
      have e1 : (gX cl k).core = (gX l (k + 1)).core := by
        have h := core_at hcr k
        rw [swapX_split l k hk] at h
        have ht : (l.take k).length = k := by rw [List.length_take]; omega
        have : (l.take k ++ l.getD (k + 1) x0 :: l.getD k x0 :: l.drop (k + 2)).getD k x0 = l.getD (k + 1) x0 := by
          have : (l.take k ++ l.getD (k + 1) x0 :: l.getD k x0 :: l.drop (k + 2))[k]? = some (l.getD (k + 1) x0) := by
            rw [List.getElem?_append_right (by omega), ht]; simp
          rw [List.getD_eq_getElem?_getD, this]; rfl
        rw [this] at h
        exact h
      have e2 : (gX cl (k + 1)).core = (gX l k).core := by
        have h := core_at hcr (k + 1)
        rw [swapX_split l k hk] at h
        have ht : (l.take k).length = k := by rw [List.length_take]; omega
        have : (l.take k ++ l.getD (k + 1) x0 :: l.getD k x0 :: l.drop (k + 2)).getD (k + 1) x0 = l.getD k x0 := by
          have : (l.take k ++ l.getD (k + 1) x0 :: l.getD k x0 :: l.drop (k + 2))[k + 1]? = some (l.getD k x0) := by
            rw [List.getElem?_append_right (by omega), ht, show k + 1 - k = 1 by omega]; simp
          rw [List.getD_eq_getElem?_getD, this]; rfl
        rw [this] at h
        exact h
      rw [clashX_core e1 e2, clashX_symm]
      exact hc
    have hne' : nextE k cl.length = 0 := by rw [hlen]; exact hne
    have hsw' : swE cl k = 0 := by
      unfold swE
      rw [if_pos (by rw [hC', hne']; rfl), Int.toNat_natCast, hcl']
      rfl
    have hsl' : swL cl k = swapX cl k := if_pos hsw'
    have h := swap_any a c cl k w hT (by rw [hlen]; exact hm)
    rw [hlen, hsw'] at h
    refine h.mono ?_
    rintro e w' ⟨v, rfl, ⟨bl, hr, hbr⟩, hb⟩
    obtain ⟨a, c, rfl, hT⟩ := hr.txs
    have hbl : bl.map TxA.core = l.map TxA.core := by
      rw [hbr, hsl']
      show (swapX cl k).map TxA.core = _
      rw [swapX_core hcr, swapX_twice l k hk]
    have hlen' : bl.length = l.length := len_core hbl
    rw [hlen']
    exact ⟨a, c, bl, rfl, hT, hbl, hlen', hb⟩
  have hsm : ∀ x ∈ l, x.rs.length ≤ 100 ∧ x.gs.length ≤ 100 ∧ x.ss.length ≤ 100 := fun x hx => by
    obtain ⟨i, hi', rfl⟩ := List.mem_iff_getElem.1 hx
    have h := chkL_at0 hC i hi'
    rw [show l.getD i x0 = l[i] by simp [List.getD, hi']] at h
    have hp := many_small _ _ _ (chk_parts (h : chkTx l[i].rs l[i].gs l[i].ss = 0)).1
    exact ⟨by omega, by omega, by omega⟩
  have ST : Hid (∀ (bl : List TxA) (a : Option Addr) (c : Nat) (w : World), bl.map TxA.core = l.map TxA.core → IsTxs w a bl → IsTxs w la l → Calls Try.prog 20 #[.slice a l.length c, .slice la l.length lc] w fun e w' => e = .returned (.bool true) ∧ Below w.heap.size w w') := fun bl a c w h h1 h2 => by
    have hlen : bl.length = l.length := len_core h
    have hq := sameTxns_eq bl l a la c lc w h (by omega) (fun x hx => by
      have h1 : x.core ∈ l.map TxA.core := by rw [← h]; exact List.mem_map.2 ⟨x, hx, rfl⟩
      obtain ⟨y, hy, e⟩ := List.mem_map.1 h1
      obtain ⟨e1, e2, e3⟩ := core_parts e
      have := hsm y hy
      rw [← e1, ← e2, ← e3]
      exact this) h1 h2
    rw [hlen] at hq
    exact hq
  by_cases h8 : s.length = 8
  · have hser : serE s l = 0 := by
      unfold serE lenE
      rw [if_pos h8, hC]
      rfl
    have e1 : sEnd s l = serEnd s l := if_pos hser
    have e2 : sRes s l = serRes s l := if_pos hser
    have hel : (serEnd s l).length = 8 := by rw [serEnd_len]; exact h8
    have hrl : (serRes s l).length = l.length := serRes_len l s
    have S1 : Hid (∀ w, IsInts w sa s → IsTxs w la l → Calls Try.prog 22 #[.slice sa s.length sc, .slice la l.length lc] w fun e w' => ∃ ea ec xa xc, e = .returned (.tuple #[.slice ea 8 ec, .slice xa l.length xc, .int .i64 0]) ∧ Hid (IsInts w' ea (serEnd s l)) ∧ Hid (IsRes w' xa (serRes s l)) ∧ Below w.heap.size w w') := fun w h1 h2 => by
      have h := serial_any sa la sc lc s l w h1 h2
      rw [e1, e2, hser, hel, hrl] at h
      refine h.mono ?_
      rintro e w' ⟨ea, ec, xa, xc, rfl, ⟨q1, _, rl, q2, q3⟩, hb⟩
      obtain ⟨xa', cap, hv, hR⟩ := q2.res
      rw [q3, hrl] at hv
      injection hv with hv1 hv2 hv3
      subst hv1
      rw [q3] at hR
      exact ⟨ea, ec, _, xc, rfl, q1.ints (Nat.le_refl _), hR, hb⟩
    have S2 : Hid (∀ (cl : List TxA) (a : Option Addr) (c : Nat) (w : World), cl.map TxA.core = (swapX l k).map TxA.core → IsInts w sa s → IsTxs w a cl → Calls Try.prog 22 #[.slice sa s.length sc, .slice a l.length c] w fun e w' => ∃ ea ec g xc rl, e = .returned (.tuple #[.slice ea 8 ec, .slice (some ⟨g, 0, none⟩) l.length xc, .int .i64 0]) ∧ Hid (IsInts w' ea (serEnd s l)) ∧ Hid (rl.length = l.length) ∧ Hid (Lies w' ⟨g, 0, none⟩ (flatR rl)) ∧ Hid (∀ r ∈ rl, IsInts w' r.va r.vs) ∧ Hid (swapT (rl.map RsA.told) k = serRes s l) ∧ Below w.heap.size w w') := fun cl a c w hcr h1 h2 => by
      have hlen : cl.length = l.length := by rw [len_core hcr, swapX_len]
      have hser' : serE s cl = 0 := by
        rw [serE_core hcr]
        unfold serE at hser ⊢
        have hC' : chkL (swapX l k) = 0 := by
          have h8' : (swapX l k).length ≤ 8 := by rw [swapX_len]; exact hl8
          unfold chkL
          rw [if_neg (by omega)]
          have : ∀ z ∈ (swapX l k).map chkX, z = 0 := by
            intro z hz
            obtain ⟨x, hx, rfl⟩ := List.mem_map.1 hz
            obtain ⟨i, hi', rfl⟩ := List.mem_iff_getElem.1 (swapX_mem hk hx)
            have h := chkL_at0 hC i hi'
            rw [show l.getD i x0 = l[i] by simp [List.getD, hi']] at h
            exact h
          generalize (swapX l k).map chkX = L at this
          induction L with
          | nil => rfl
          | cons a t ih =>
            unfold firstNZ
            rw [if_pos (this a List.mem_cons_self)]
            exact ih (fun z hz => this z (List.mem_cons_of_mem _ hz))
        rw [hC'] 
        rw [hC] at hser
        exact hser
      have e1' : sEnd s cl = serEnd s l := by
        rw [show sEnd s cl = serEnd s cl from if_pos hser', serEnd_core _ _ s hcr, hend]
      have e2' : sRes s cl = serRes s (swapX l k) := by
        rw [show sRes s cl = serRes s cl from if_pos hser', serRes_core _ _ s hcr]
      have hrl' : (serRes s (swapX l k)).length = l.length := by rw [serRes_len, swapX_len]
      have h := serial_any sa a sc c s cl w h1 h2
      rw [hlen, e1', e2', hser', hel, hrl'] at h
      refine h.mono ?_
      rintro e w' ⟨ea, ec, xa, xc, rfl, ⟨q1, _, rl, q2, q3⟩, hb⟩
      have hrll : rl.length = l.length := by
        have := congrArg List.length q3
        rw [List.length_map, hrl'] at this
        exact this
      obtain ⟨g, cap, hv, _, _, _⟩ := own_at2 q2.1 (by omega)
      rw [hrl', hrll] at hv
      have q2' := q2.1
      rw [hrl', hv] at q2'
      injection hv with hv1 hv2 hv3
      subst hv1
      exact ⟨ea, ec, g, xc, rl, rfl, q1.ints (Nat.le_refl _), hrll, lies_row q2', fun r hr => (q2.2 r hr).1.ints (Nat.le_refl _), by show _ = _; rw [q3]; exact hres, hb⟩
    have SI : Hid (∀ (a a' : Option Addr) (c c' : Nat) (w : World), IsInts w a (serEnd s l) → IsInts w a' (serEnd s l) → Calls Try.prog 23 #[.slice a 8 c, .slice a' 8 c'] w fun e w' => e = .returned (.bool true) ∧ Below w.heap.size w w') := fun a a' c c' w => sameStore a a' c c' (serEnd s l) hel w
    have SR : Hid (∀ (a a' : Option Addr) (c c' : Nat) (w : World), IsRes w a (serRes s l) → IsRes w a' (serRes s l) → Calls Try.prog 24 #[.slice a l.length c, .slice a' l.length c'] w fun e w' => e = .returned (.bool true) ∧ Below w.heap.size w w') := fun a a' c c' w h1 h2 => by
      have h := sameResults_eq (serRes s l) a a' c c' w (by rw [hrl]; omega) (vals_few hser) h1 h2
      rw [hrl] at h
      exact h
    have i1 : (0 : Int) ≤ (k : Int) := by omega
    have i1' : ¬ (k : Int) < 0 := by omega
    have i2 : (k : Int) < (l.length : Int) := by omega
    have i3 : (0 : Int) ≤ (k : Int) + 1 := by omega
    have i4 : (k : Int) + 1 < (l.length : Int) := by omega
    have i5 : ((k : Int) + 1).toNat = k + 1 := by omega
    have hw0 : IntKind.i64.wrap ((k : Int) + 1) = (k : Int) + 1 := by rw [IntWalk.i64_in] <;> omega
    have hnl : ((l.length : Int) != (l.length : Int)) = false := by simp
    have OS : Hid (∀ (rl : List RsA) (C : Nat) (w : World) (g cap : Nat), rl.length = l.length → w.ownsRow C 52 2 (.slice (some ⟨g, 0, none⟩) l.length cap) l.length (flatR rl) → (put2 (put2 w g k (rl.getD (k + 1) r0)) g (k + 1) (rl.getD k r0)).ownsRow C 52 2 (.slice (some ⟨g, 0, none⟩) l.length cap) l.length (flatR (swapR rl k))) := fun rl C w g cap hrl h => by
      have h' := own_swap2 (l := rl) (by rw [hrl]; exact h) k (by omega)
      rw [hrl] at h'
      exact h'
    clear hs hl hm hC hc hne hF0 hsw hsl hgx hgy hend hres hser e1 e2 hel hrl hsm h8
    go_enter Try.func5, Try.ntmps5
    go_wp2_with fail
    refine SW1.out.mono ?_
    clear SW1
    rintro e w1 ⟨ma, mc, ml, rfl, hM, hMc, hMl, b1⟩
    have B1 : Hid (Below w.heap.size w w1) := b1
    clear b1
    go_wp2_with fail
    refine (S1.out _ (HS.out.below B1.out) (HL.out.below B1.out)).mono ?_
    rintro e w2 ⟨ea, ec, xa, xc, rfl, hEa, hXa, b2⟩
    have B2 : Hid (Below w.heap.size w w2) := grow_trans B1.out b2
    have hM : Hid (IsTxs w2 ma ml) := hM.out.below b2
    clear b2 B1 S1
    go_wp2_with fail
    refine (S2.out ml ma mc _ hMc.out (HS.out.below B2.out) hM.out).mono ?_
    rintro e w3 ⟨eb, ed, g, gc, rl, rfl, hEb, hrl, hLies, hIn, hTold, b3⟩
    have B3 : Hid (Below w.heap.size w w3) := grow_trans B2.out b3
    have hM : Hid (IsTxs w3 ma ml) := hM.out.below b3
    have hEa : Hid (IsInts w3 ea (serEnd s l)) := hEa.out.below b3
    have hXa : Hid (IsRes w3 xa (serRes s l)) := hXa.out.below b3
    clear b3 B2 S2
    go_wp2_with fail
    refine (SW2.out ml ma mc _ hM.out hMc.out).mono ?_
    rintro e w4 ⟨ba, bc, bl, rfl, hBl, hBc, hBn, b4⟩
    have B4 : Hid (Below w.heap.size w w4) := grow_trans B3.out b4
    have hEa : Hid (IsInts w4 ea (serEnd s l)) := hEa.out.below b4
    have hEb : Hid (IsInts w4 eb (serEnd s l)) := hEb.out.below b4
    have hXa : Hid (IsRes w4 xa (serRes s l)) := hXa.out.below b4
    have hLies : Hid (Lies w4 ⟨g, 0, none⟩ (flatR rl)) := hLies.out.below b4
    have hIn : Hid (∀ r ∈ rl, IsInts w4 r.va r.vs) := fun r hr => (hIn.out r hr).below b4
    clear b4 B3 SW2 hM hMc hMl
    go_wp2_with fail
    refine (ST.out bl ba bc _ hBc.out hBl.out (HL.out.below B4.out)).mono ?_
    rintro e w5 ⟨rfl, b5⟩
    have hEa : Hid (IsInts w5 ea (serEnd s l)) := hEa.out.below b5
    have hEb : Hid (IsInts w5 eb (serEnd s l)) := hEb.out.below b5
    have hXa : Hid (IsRes w5 xa (serRes s l)) := hXa.out.below b5
    have hLies : Hid (Lies w5 ⟨g, 0, none⟩ (flatR rl)) := hLies.out.below b5
    have hIn : Hid (∀ r ∈ rl, IsInts w5 r.va r.vs) := fun r hr => (hIn.out r hr).below b5
    have B5 : Hid (Below w.heap.size w w5) := grow_trans B4.out b5
    clear b5 B4 ST hBl hBc hBn
    go_wp2_with fail
    refine (SI.out ea eb ec ed _ hEa.out hEb.out).mono ?_
    rintro e w6 ⟨rfl, b6⟩
    have hXa : Hid (IsRes w6 xa (serRes s l)) := hXa.out.below b6
    have hLies : Hid (Lies w6 ⟨g, 0, none⟩ (flatR rl)) := hLies.out.below b6
    have hIn : Hid (∀ r ∈ rl, IsInts w6 r.va r.vs) := fun r hr => (hIn.out r hr).below b6
    have B6 : Hid (Below w.heap.size w w6) := grow_trans B5.out b6
    clear b6 B5 SI hEa hEb HS HL
    have BA : Hid (Below w6.heap.size w6 (w6.alloc (.cells #[] 52))) := grow_alloc (Below.refl _ _) _
    have LI : Hid (Lies (w6.alloc (.cells #[] 52)) ⟨g, 0, none⟩ (flatR rl)) := hLies.out.below BA.out
    have hrl8 : rl.length ≤ 8 := by have := hrl.out; omega
    have flen : Hid ((flatR rl).length = l.length * 2) := by show _ = _; rw [flatR_len, hrl.out]
    go_upto_region 12 with (first
      | (at_builtin; (refine wpList_append_own _ rfl _ _ 47 rfl w6.heap.size 52 i0 (.agg #[.bool false, .slice none 0 0]) 2 32 Try.underlying47 hi hz0 hz1 hz2 rfl (by decide) _ 0 [] rfl (own_empty2 w6 w6.heap.size w6.heap.size rfl (Nat.le_refl _)) ⟨g, 0, none⟩ l.length gc (flatR rl) rfl flen.out LI.out (flatR_one rl) (by unfold maxLen; omega) (by omega) (by simp) ?_); intro v' w7 hown' hgrow _)
      | go_in)
    have ho : w7.ownsRow w6.heap.size 52 2 v' l.length (flatR rl) := by simpa using hown'
    have B7 : Below w6.heap.size w6 w7 := (BA.out).grown hgrow (by simp) (fun j hj => ((own_empty2 w6 w6.heap.size w6.heap.size rfl (Nat.le_refl _)).lt j hj).1)
    obtain ⟨g', cap, hv', hg', hcs, hfz⟩ := own_at2 (l := rl) (by rw [hrl.out]; exact ho) (by have := hrl.out; omega)
    rw [hrl.out] at hv'
    subst hv'
    obtain ⟨c0, c1⟩ := hcs k (by have := hrl.out; omega)
    obtain ⟨c2, c3⟩ := hcs (k + 1) (by have := hrl.out; omega)
    have l0 : Hid (Lies w7 ⟨g, 0, none⟩ (flatR rl)) := hLies.out.below B7
    obtain ⟨f0, f1⟩ := flatR_at rl k (by have := hrl.out; omega)
    obtain ⟨f2, f3⟩ := flatR_at rl (k + 1) (by have := hrl.out; omega)
    have m0 := l0.out _ _ f0
    have m1 := l0.out _ _ f1
    have m2 := l0.out _ _ f2
    have m3 := l0.out _ _ f3
    rw [add_none] at m0 m1 m2 m3
    simp only [Nat.zero_add] at m0 m1 m2 m3
    have hgl : g < w6.heap.size := by
      have h := hLies.out _ _ f0
      rw [add_none] at h
      exact World.block_lt_of_cell? w6 _ h
    have hgg : g ≠ g' := by omega
    have z0 := hfz (k * 2)
    have z1 := hfz (k * 2 + 1)
    have z2 := hfz ((k + 1) * 2)
    have z3 := hfz ((k + 1) * 2 + 1)
    have RO := OS.out rl _ _ _ _ hrl.out ho
    have hwg : w6.heap.size ≤ g' := hg'
    have RB : Below w6.heap.size w6 (put2 (put2 w7 g' k (rl.getD (k + 1) r0)) g' (k + 1) (rl.getD k r0)) := grow_set (grow_set (grow_set (grow_set B7 (p := ⟨g', k * 2, none⟩) hwg _) (p := ⟨g', k * 2 + 1, none⟩) hwg _) (p := ⟨g', (k + 1) * 2, none⟩) hwg _) (p := ⟨g', (k + 1) * 2 + 1, none⟩) hwg _
    obtain ⟨ta, tc, hv, hT⟩ := res_of_owns RO (fun r hr => (hIn.out r (swapR_mem (by have := hrl.out; omega) hr)).below RB)
    injection hv with hv1 hv2 hv3
    subst hv1
    rw [swapR_told, hTold.out] at hT
    have HT : Hid (IsRes (put2 (put2 w7 g' k (rl.getD (k + 1) r0)) g' (k + 1) (rl.getD k r0)) (some ⟨g', 0, none⟩) (serRes s l)) := hT
    have HXa : Hid (IsRes (put2 (put2 w7 g' k (rl.getD (k + 1) r0)) g' (k + 1) (rl.getD k r0)) xa (serRes s l)) := hXa.out.below RB
    have HRB : Hid (Below w.heap.size w (put2 (put2 w7 g' k (rl.getD (k + 1) r0)) g' (k + 1) (rl.getD k r0))) := grow_trans B6.out RB
    clear hown' hgrow ho B7 hcs RO hfz LI BA hT RB hv2 hv3 hXa hIn hLies hTold OS l0 f0 f1 f2 f3 flen hrl hrl8
    generalize rl.getD k r0 = x at *
    generalize rl.getD (k + 1) r0 = y at *
    obtain ⟨xva, xvc, xd, xvs⟩ := x
    obtain ⟨yva, yvc, yd, yvs⟩ := y
    simp only [put2] at c0 c1 c2 c3 m0 m1 m2 m3 HT HXa HRB
    go_wp2_with fail
    refine (graphBegun_any _).mono ?_
    rintro e v1 ⟨rfl, b8⟩
    have HT : Hid (IsRes v1 (some ⟨g', 0, none⟩) (serRes s l)) := HT.out.below b8
    have HXa : Hid (IsRes v1 xa (serRes s l)) := HXa.out.below b8
    have HRB : Hid (Below w.heap.size w v1) := grow_trans HRB.out b8
    clear b8 c0 c1 c2 c3 m0 m1 m2 m3 z0 z1 z2 z3
    go_wp2_with fail
    refine (SR.out xa (some ⟨g', 0, none⟩) xc cap _ HXa.out HT.out).mono ?_
    rintro e v2 ⟨rfl, b9⟩
    have R : Hid (Below w.heap.size w v2) := grow_trans HRB.out b9
    clear b9 HT HXa HRB SR
    go_wp2
    go_ret
    exact ⟨by first | rfl | simp, R.out⟩
  · have hser : ∀ m : List TxA, serE s m = 1 := fun m => by
      unfold serE lenE
      rw [if_neg h8]
      rfl
    have S1 : Hid (∀ (m : List TxA) (a : Option Addr) (c : Nat) (w : World), IsInts w sa s → IsTxs w a m → Calls Try.prog 22 #[.slice sa s.length sc, .slice a m.length c] w fun e w' => ∃ ea ec n1 xa xc n2, e = .returned (.tuple #[.slice ea n1 ec, .slice xa n2 xc, .int .i64 1]) ∧ Below w.heap.size w w') := fun m a c w h1 h2 => by
      have h := serial_any sa a sc c s m w h1 h2
      rw [hser] at h
      refine h.mono ?_
      rintro e w' ⟨ea, ec, xa, xc, rfl, _, hb⟩
      exact ⟨ea, ec, _, xa, xc, _, rfl, hb⟩
    clear hs hl hm hC hc hne hF0 hsw hsl hgx hgy hend hres hser hsm ST h8
    go_enter Try.func5, Try.ntmps5
    go_wp2_with fail
    refine SW1.out.mono ?_
    clear SW1
    rintro e w1 ⟨ma, mc, ml, rfl, hM, hMc, hMl, b1⟩
    have B1 : Hid (Below w.heap.size w w1) := b1
    clear b1
    go_wp2_with fail
    refine (S1.out l la lc _ (HS.out.below B1.out) (HL.out.below B1.out)).mono ?_
    rintro e w2 ⟨ea, ec, n1, xa, xc, n2, rfl, b2⟩
    have B2 : Hid (Below w.heap.size w w2) := grow_trans B1.out b2
    have hM : Hid (IsTxs w2 ma ml) := hM.out.below b2
    have S2 : Hid (Calls Try.prog 22 #[.slice sa s.length sc, .slice ma l.length mc] w2 fun e w' => ∃ ea ec n1 xa xc n2, e = .returned (.tuple #[.slice ea n1 ec, .slice xa n2 xc, .int .i64 1]) ∧ Below w2.heap.size w2 w') := by
      have h := S1.out ml ma mc w2 (HS.out.below B2.out) hM.out
      rw [hMl.out] at h
      exact h
    clear b2 B1 S1
    go_wp2_with fail
    refine S2.out.mono ?_
    rintro e w3 ⟨eb, ed, n3, xb, xd, n4, rfl, b3⟩
    have B3 : Hid (Below w.heap.size w w3) := grow_trans B2.out b3
    have hM : Hid (IsTxs w3 ma ml) := hM.out.below b3
    clear b3 B2 S2
    go_wp2_with fail
    refine (SW2.out ml ma mc _ hM.out hMc.out).mono ?_
    rintro e w4 ⟨ba, bc, bl, rfl, _, _, _, b4⟩
    have B4 : Hid (Below w.heap.size w w4) := grow_trans B3.out b4
    clear b4 B3 SW2 hM hMc hMl
    go_wp2_with fail
    refine (graphBegun_any _).mono ?_
    rintro e v1 ⟨rfl, b8⟩
    have R : Hid (Below w.heap.size w v1) := grow_trans B4.out b8
    clear b8 B4
    go_wp2
    go_ret
    exact ⟨by first | rfl | simp, R.out⟩

set_option maxRecDepth 100000 in
set_option maxHeartbeats 2000000 in
theorem graphSame_walk (n : Int) (w : World) (hs : IsInts w sa s) (hl : IsTxs w la l) (hm : l.length ≤ maxLen) :
    Calls Try.prog 5 #[.slice sa s.length sc, .slice la l.length lc, .int .i64 n] w fun e w' => e = .returned (.bool true) ∧ Below w.heap.size w w' := by
  by_cases he : swE l n = 0
  · have hE := he
    unfold swE at hE
    by_cases hF : firstNZ [chkL l, nextE n l.length] = 0
    · rw [if_pos hF] at hE
      have hz := firstNZ_zero _ hF
      have hC : chkL l = 0 := by simpa using hz 0
      have hN := nextE_zero (n := n) (k := l.length) (by simpa using hz 1)
      obtain ⟨k, rfl⟩ : ∃ k : Nat, n = k := ⟨n.toNat, by omega⟩
      rw [Int.toNat_natCast] at hE
      have hc : clashX (gX l k) (gX l (k + 1)) = false := by
        cases h : clashX (gX l k) (gX l (k + 1)) with
        | false => rfl
        | true => rw [h] at hE; simp at hE
      exact graphSame_go sa sc s la lc l k w hs hl hm hC (by omega) hc
    · rw [if_neg hF] at hE
      exact absurd hE hF
  · have SW : Hid (Calls Try.prog 13 #[.slice la l.length lc, .int .i64 n] w fun e w' => ∃ v, e = .returned (.tuple #[v, .int .i64 (swE l n)]) ∧ Below w.heap.size w w') := (swap_any la lc l n w hl hm).mono fun e w' ⟨v, h1, _, h3⟩ => ⟨v, h1, h3⟩
    have hb : (swE l n != 0) = true := by simpa using he
    generalize swE l n = se at *
    clear hs hl hm he
    go_enter Try.func5, Try.ntmps5
    go_wp2_with fail
    refine SW.out.mono ?_
    clear SW
    rintro e w1 ⟨v, rfl, b1⟩
    have B1 : Hid (Below w.heap.size w w1) := b1
    clear b1
    go_wp2_with fail
    refine (graphBegun_any _).mono ?_
    rintro e v1 ⟨rfl, b8⟩
    have R : Hid (Below w.heap.size w v1) := grow_trans B1.out b8
    clear b8 B1
    go_wp2
    go_ret
    exact ⟨rfl, R.out⟩
end Go.Proofs.Ytikolifbljnokaa
