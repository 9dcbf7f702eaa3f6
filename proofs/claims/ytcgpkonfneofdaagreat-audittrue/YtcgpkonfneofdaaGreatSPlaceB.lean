/-
  
  Conditions: those that each theorem states.
-/
import Derived.Test.YtcgpkonfneofdaaGreatSPlaceA
import Derived.OwnWalk
import Derived.Laws.OwnMore
set_option maxRecDepth 100000
namespace Go.Proofs.YtcgpkonfneofdaaGreat
open Go.RowKit
theorem Tryz.info4 : (Tryz.prog.info? 4).map (fun i => (i.zero, i.size, i.bytes)) = some (some (.bool false), 1, 1) := by kernel_rfl
def IsBools (w : World) (a : Option Addr) (bs : List Bool) : Prop :=
 ∀ i, i < bs.length → ∃ b off, a = some ⟨b, off, none⟩ ∧ b < w.heap.size ∧ w.cell? ⟨b, off + i, none⟩ = some (.bool (bs.getD i false))
theorem IsBools.below {w w' : World} {a : Option Addr} {bs : List Bool} (h : IsBools w a bs) (hb : Below w.heap.size w w') : IsBools w' a bs := fun i hi => by
 obtain ⟨b, off, ha, hlt, c0⟩ := h i hi
 exact ⟨b, off, ha, Nat.lt_of_lt_of_le hlt hb.size, ext_cell hb c0⟩
def marks (sh : Nat) (ks : List Int) : List Bool := ks.foldl (fun bs k => bs.set (k.toNat % sh) true) (List.replicate sh false)
theorem marks_snoc (sh : Nat) (ks : List Int) (k : Int) : marks sh (ks ++ [k]) = (marks sh ks).set (k.toNat % sh) true := by simp [marks]
theorem marks_len (sh : Nat) : ∀ ks, (marks sh ks).length = sh := fun ks => by
 have h : ∀ (l : List Int) (bs : List Bool), (l.foldl (fun bs k => bs.set (k.toNat % sh) true) bs).length = bs.length := by
  intro l
  induction l with
  | nil => intro bs; rfl
  | cons k t ih => intro bs; rw [List.foldl_cons, ih]; simp
 rw [marks, h, List.length_replicate]
theorem marks_take (sh : Nat) (ks : List Int) (k : Nat) (h : k < ks.length) : marks sh (ks.take (k + 1)) = (marks sh (ks.take k)).set ((ks.getD k 0).toNat % sh) true := by
 rw [List.take_succ_eq_append_getElem h, marks_snoc]
 simp [List.getD, h]
theorem made_bools0 : (madeCells (Value.bool false).cells (0 * 1)).toList = (List.replicate 0 false).map Value.bool := by kernel_rfl
theorem made_bools1 : (madeCells (Value.bool false).cells (1 * 1)).toList = (List.replicate 1 false).map Value.bool := by kernel_rfl
theorem made_bools2 : (madeCells (Value.bool false).cells (2 * 1)).toList = (List.replicate 2 false).map Value.bool := by kernel_rfl
theorem made_bools3 : (madeCells (Value.bool false).cells (3 * 1)).toList = (List.replicate 3 false).map Value.bool := by kernel_rfl
theorem made_bools4 : (madeCells (Value.bool false).cells (4 * 1)).toList = (List.replicate 4 false).map Value.bool := by kernel_rfl
theorem made_bools (n : Nat) (h : n ≤ 4) : (madeCells (Value.bool false).cells (n * 1)).toList = (List.replicate n false).map Value.bool := by
 have e : n = 0 ∨ n = 1 ∨ n = 2 ∨ n = 3 ∨ n = 4 := by omega
 rcases e with rfl | rfl | rfl | rfl | rfl
 ·exact made_bools0
 ·exact made_bools1
 ·exact made_bools2
 ·exact made_bools3
 ·exact made_bools4
theorem bool_cell {w : World} {base g n cap : Nat} {bs : List Bool} (h : w.ownsRow base 4 1 (.slice (some ⟨g, 0, none⟩) n cap) n (bs.map Value.bool)) (i : Nat) (hi : i < bs.length) : w.cell? ⟨g, i, none⟩ = some (.bool (bs.getD i false)) := by
 have hc := h.cells (g := g) rfl i (.bool (bs.getD i false)) (by simp [List.getD, hi])
 rw [add_none] at hc
 simpa using hc
theorem grown_one (w : World) (b i : Nat) (v : Value) : w.grownBy (w.setCell ⟨b, i, none⟩ v) (some b) := ⟨rfl, rfl, rfl, by simp, fun j _ hj => Below.heap_setCell w ⟨b, i, none⟩ v j (fun h => hj (by rw [h]))⟩
theorem own_low {w : World} {base base' : Nat} {e : TypeId} {size : Nat} {v : Value} {n : Nat} {xs : List Value} (h : w.ownsRow base e size v n xs) (hb : base' ≤ base) : w.ownsRow base' e size v n xs := by
 refine ⟨h.1, ?_⟩
 rcases h.2 with hn | ⟨g, cap, cur, e1, hbg, rest⟩
 ·exact .inl hn
 ·exact .inr ⟨g, cap, cur, e1, Nat.le_trans hb hbg, rest⟩
variable (la : Option Addr) (lc : Nat) (l : List TxA)
set_option maxHeartbeats 2000000 in
theorem shardsOf_any (sh : Nat) (ka : Option Addr) (kc : Nat) (ks : List Int) (w : World) (hs : 0 < sh) (hs4 : sh ≤ 4) (hk : IsInts w ka ks) (hkl : ks.length ≤ 100) (hkk : ∀ i, i < ks.length → 0 ≤ ks.getD i 0 ∧ ks.getD i 0 < 8) :
  Calls Tryz.prog 96 #[.agg #[.int .i64 sh, .slice la l.length lc], .slice ka ks.length kc] w fun e w' => ∃ g cap, e = .returned (.slice (some ⟨g, 0, none⟩) sh cap) ∧ w'.ownsRow w.heap.size 4 1 (.slice (some ⟨g, 0, none⟩) sh cap) sh ((marks sh ks).map Value.bool) ∧ Below w.heap.size w w' := by
 obtain ⟨i0, hi, hz0, hz1, hz2⟩ := info_parts Tryz.info4
 have HK : Hid (IsInts w ka ks) := hk
 have HR : Hid (∀ i, i < ks.length → 0 ≤ ks.getD i 0 ∧ ks.getD i 0 < 8) := hkk
 have HM : Hid ((madeCells (Value.bool false).cells (sh * 1)).toList = (List.replicate sh false).map Value.bool) := made_bools sh hs4
 have q0 : (w.alloc (.cells #[.int .i64 sh, .slice la l.length lc] 24)).cell? ⟨w.heap.size, 0, none⟩ = some (.int .i64 sh) := by simp
 have q1 : (w.alloc (.cells #[.int .i64 sh, .slice la l.length lc] 24)).cell? ⟨w.heap.size, 1, none⟩ = some (.slice la l.length lc) := by simp
 have hU : Below w.heap.size w (w.alloc (.cells #[.int .i64 sh, .slice la l.length lc] 24)) := grow_alloc (Below.refl _ _) _
 have hsz : w.heap.size + 1 = (w.alloc (.cells #[.int .i64 sh, .slice la l.length lc] 24)).heap.size := by simp
 clear hk hkk
 go_enter Tryz.func96, Tryz.ntmps96
 go_wp2_with (first | (at_make; refine wpList_make_full _ rfl _ _ 80 rfl (w.heap.size + 1) 4 i0 (.bool false) 1 Tryz.underlying80 hi hz0 hz1 .i64 .i64 _ _ sh rfl rfl rfl rfl (by rw [hz2]; omega) (by unfold maxLen; omega) (by simp) ?_; intro w1 hown hgrow) | go_in)
 generalize w.alloc (.cells #[.int .i64 sh, .slice la l.length lc] 24) = W at *
 rw [HM.out] at hown
 have UW := Below.grown (Below.refl (w.heap.size + 1) W) hgrow (by omega) (fun j hj => by cases hj)
 have r0 : w1.cell? ⟨w.heap.size, 0, none⟩ = some (.int .i64 sh) := (UW.cell (p := ⟨w.heap.size, 0, none⟩) (by simp)).trans q0
 have r1 : w1.cell? ⟨w.heap.size, 1, none⟩ = some (.slice la l.length lc) := (UW.cell (p := ⟨w.heap.size, 1, none⟩) (by simp)).trans q1
 have hW1 : Hid (Below w.heap.size w w1) := hU.trans (UW.mono (by omega))
 have hg1 : W.heap.size < w1.heap.size := by
  have := (hown.lt W.heap.size (by simp [Value.ownBlock])).2
  exact this
 have hm0 : Hid (w1.ownsRow (w.heap.size + 1) 4 1 (.slice (some ⟨W.heap.size, 0, none⟩) sh sh) sh ((marks sh []).map Value.bool)) := hown
 have hgw0 : w.heap.size + 1 ≤ W.heap.size := by omega
 clear q0 q1 hU UW hown hgrow HM
 generalize W.heap.size = g at *
 have hgw : w.heap.size ≠ g := by omega
 go_wp2
 go_loopw [7, 13] (fun _ i wr => ∃ k : Nat, k ≤ ks.length ∧ i = .int .i64 k ∧ Hid (wr.ownsRow (w.heap.size + 1) 4 1 (.slice (some ⟨g, 0, none⟩) sh sh) sh ((marks sh (ks.take k)).map Value.bool)) ∧ w1.grownBy wr (some g)) (fun _ i _ => ks.length - (intOf i).toNat)
 case atStart => exact ⟨0, Nat.zero_le _, rfl, hm0, World.grownBy.refl _ _⟩
 case round =>
  obtain ⟨k, hk, rfl, hown, hgr⟩ := hrel
  clear hm0
  have far : ∀ (b j : Nat) (v : Value), b ≠ g → w1.cell? ⟨b, j, none⟩ = some v → wr.cell? ⟨b, j, none⟩ = some v := fun b j v hne h => hgr.cell h (by simpa using hne)
  have t0 := far _ _ _ hgw r0
  have t1 := far _ _ _ hgw r1
  by_cases hlt : k < ks.length
  ·obtain ⟨b, off, rfl, hb, c00⟩ := HK.out k hlt
   have c0 := ext_cell hW1.out c00
   obtain ⟨z0, z8⟩ := HR.out k hlt
   have hbg : b ≠ g := by omega
   have d0 := far _ _ _ hbg c0
   have HT : Hid (marks sh (ks.take (k + 1)) = (marks sh (ks.take k)).set ((ks.getD k 0).toNat % sh) true) := marks_take sh ks k hlt
   generalize ks.getD k 0 = z at *
   obtain ⟨y, rfl⟩ := Int.eq_ofNat_of_zero_le z0
   have hy : y < 8 := by omega
   have hMl : (marks sh (ks.take k)).length = sh := marks_len sh _
   have hlt2 : y % sh < sh := Nat.mod_lt _ hs
   have hA : Below wr.heap.size wr (wr.alloc (.cells #[.int .i64 sh, .slice la l.length lc] 24)) := grow_alloc (Below.refl _ _) _
   have ho1 := owns_below hown.out hA
   have q3 := bool_cell ho1 (y % sh) (by rw [hMl]; exact hlt2)
   have q4 : (wr.alloc (.cells #[.int .i64 sh, .slice la l.length lc] 24)).frozen? ⟨g, y % sh, none⟩ = false := ho1.frozenAt (y % sh)
   have R1 : Hid (((wr.alloc (.cells #[.int .i64 sh, .slice la l.length lc] 24)).setCell ⟨g, y % sh, none⟩ (.bool true)).ownsRow (w.heap.size + 1) 4 1 (.slice (some ⟨g, 0, none⟩) sh sh) sh ((marks sh (ks.take (k + 1))).map Value.bool)) := by
    have h := (ho1.stored (y % sh) (.bool true)).1
    rw [HT.out, List.map_set]
    exact h
   have R2 : Hid (w1.grownBy ((wr.alloc (.cells #[.int .i64 sh, .slice la l.length lc] 24)).setCell ⟨g, y % sh, none⟩ (.bool true)) (some g)) := (hgr.trans (World.grownBy_alloc wr _ _)).trans (grown_one _ g (y % sh) _)
   have hm1 : (0 : Int) ≤ ((y % sh : Nat) : Int) := by omega
   have hm2 : ((y % sh : Nat) : Int) < (sh : Int) := by omega
   have CS : Hid (Calls Tryz.prog 119 #[.agg #[.int .i64 sh, .slice la l.length lc], .int .i64 y] wr fun e w' => e = .returned (.int .i64 ((y % sh : Nat) : Int)) ∧ w' = wr.alloc (.cells #[.int .i64 sh, .slice la l.length lc] 24)) := shardOf_any la lc l sh y wr hs hs4 hy
   generalize (marks sh (ks.take k)).getD (y % sh) false = old at *
   clear hown hgr far c0 c00 hA ho1 z0 z8 hMl
   generalize y % sh = r at *
   go_wp2_with fail
   refine CS.out.mono ?_
   rintro e w' ⟨rfl, hw'⟩
   rw [hw']
   clear hw' w' CS
   generalize wr.alloc (.cells #[.int .i64 sh, .slice la l.length lc] 24) = V at *
   clear t0 t1 d0
   go_wp2
   go_roundw
   case rel => exact ⟨k + 1, by omega, by go_num, R1, R2.out⟩
   case measure => simp [intOf]; omega
  ·have hkk : k = ks.length := by omega
   have hfin : Hid (wr.ownsRow w.heap.size 4 1 (.slice (some ⟨g, 0, none⟩) sh sh) sh ((marks sh ks).map Value.bool)) := by
    have h := hown.out
    rw [hkk, List.take_of_length_le (Nat.le_refl _)] at h
    exact own_low h (by omega)
   have hB : Hid (Below w.heap.size w wr) := hW1.out.trans ((Below.grown (Below.refl w.heap.size w1) hgr (by omega) (fun j hj => by injection hj with hj; omega)))
   clear hown hgr far
   go_wp2
   go_ret
   exact ⟨g, sh, rfl, hfin.out, hB.out⟩
end Go.Proofs.YtcgpkonfneofdaaGreat
