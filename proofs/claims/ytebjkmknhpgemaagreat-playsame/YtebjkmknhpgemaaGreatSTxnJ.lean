/-
  
  Conditions: those that each theorem states.
-/
import Derived.Test.YtebjkmknhpgemaaGreatSTxnH
import Derived.Lib.SliceRun
import Derived.Laws.OwnMore
set_option maxRecDepth 100000
namespace Go.Proofs.YtebjkmknhpgemaaGreat
open Go.RowKit
theorem setRow_old {w : World} {base g cap n size : Nat} {e : TypeId} {cur new : Array Value} {xs : List Value} (hl : xs.length = n * size) (hbg : base ≤ g) (hg : w.heap[g]? = some (.cells cur e (0, 0))) (hnc : n ≤ cap) (hcm : cap ≤ maxLen) (hs : new.size = cap * size) (ht : new.toList.take (n * size) = xs) :
  (w.setRow g new).ownsRow base e size (.slice (some ⟨g, 0, none⟩) n cap) n xs :=
 ⟨hl, .inr ⟨g, cap, new, rfl, hbg, setRow_heap w g cur _ e _ hg, hnc, hcm, hs, ht⟩⟩
theorem run_append_keep {P : Program} (w : World) (base : Nat) (t ty e : TypeId) (i : TypeInfo) (z : Value) (bytes : Nat) (ht : P.underlying t = some (.slice e)) (hi : P.info? e = some i) (hz : i.zero = some z)
  (hby : i.bytes = bytes) (hzs : z.cells.size = i.size) (hsz : 0 < i.size)
  (v : Value) (n : Nat) (xs : List Value) (hown : w.ownsRow base e i.size v n xs)
  (a : Addr) (m c : Nat) (news : List Value) (hl : news.length = m * i.size) (hnews : ∀ j u, news[j]? = some u → w.cell? (a.add j) = some u) (h1 : ∀ u ∈ news, u.oneCell' = true)
  (h63 : n + m ≤ maxLen) (hbytes : (n + m) * bytes ≤ 140737488355328) (hbase : base ≤ w.heap.size) :
  ∃ v' w', (Builtin.append_ #[t, t] ty #[v, .slice (some a) m c]).run P w = .ok v' w' ∧ w'.ownsRow base e i.size v' (n + m) (xs ++ news) ∧ w.grownBy w' v.ownBlock ∧ w'.ownsRow base e i.size v n xs := by
 obtain ⟨v', w', hr, h2, h3, _⟩ := run_append_own (P := P) w base t ty e i z i.size bytes ht hi hz rfl hby hzs hsz v n xs hown a m c news hl hnews h1 h63 hbytes hbase
 refine ⟨v', w', hr, h2, h3, ?_⟩
 rcases hown.2 with ⟨rfl, rfl⟩ | ⟨g, cap, cur, rfl, hbg, hg, hnc, hcm, hcs, htake⟩
 ·exact ⟨hown.1, .inl ⟨rfl, rfl⟩⟩
 ·by_cases hroom : n + m ≤ cap
  ·have hfit : n * i.size + news.length ≤ cur.size := by rw [hl, hcs, ← Nat.add_mul]; exact Nat.mul_le_mul_right _ hroom
   have hr' := run_append_room (P := P) w t ty e i ht hi g n cap cur hg a m c news hl hnews h1 hroom hfit
   rw [hr] at hr'
   injection hr' with _ hw
   subst hw
   refine setRow_old hown.1 hbg hg hnc hcm ?_ ?_
   ·simp only [List.size_toArray, List.length_append, List.length_take, List.length_drop, Array.length_toList]
    omega
   ·rw [htake, List.append_assoc, ← hown.1]
    exact List.take_left
  ·have holds : ∀ j u, xs[j]? = some u → w.cell? ((⟨g, 0, none⟩ : Addr).add j) = some u := hown.cells (g := g) rfl
   have hsmall : n + m ≤ 9223372036854775807 := by simp only [maxLen] at h63; omega
   have hb' : (n + m) * i.bytes ≤ 140737488355328 := by rw [hby]; exact hbytes
   have hr' := run_append_grow (P := P) w t ty e i z ht hi hz ⟨g, 0, none⟩ n cap xs hown.1 holds a m c news hl hnews (by omega) (by omega) (growslice_fits (by omega) hb')
   rw [hr] at hr'
   injection hr' with _ hw
   subst hw
   exact ⟨hown.1, .inr ⟨g, cap, cur, rfl, hbg, (Below.heap_alloc w.drew _ g (Array.getElem?_eq_some_iff.1 hg).1).trans hg, hnc, hcm, hcs, htake⟩⟩
theorem step_append_keep {P : Program} {w : World} {ops : Array Oper} {o : Oper} {a : Act} {K : Act → World → Prop} {Q : Exit → Act → World → Prop} {E : Prop} (hgd : o.guard = none) (s x : Operand) (t : TypeId)
  (ho : o.op = .call { callee := .builtin .append, args := #[s, x], argTypes := #[t, t] })
  (base : Nat) (e : TypeId) (i : TypeInfo) (z : Value) (bytes : Nat) (ht : P.underlying t = some (.slice e)) (hi : P.info? e = some i) (hz : i.zero = some z)
  (hsize : i.size = 1) (hby : i.bytes = bytes) (hzs : z.cells.size = 1)
  (v : Value) (n : Nat) (xs : List Value) (hs : a.eval s = v) (hown : w.ownsRow base e 1 v n xs)
  (ad : Addr) (m c : Nat) (news : List Value) (hx : a.eval x = .slice (some ad) m c) (hl : news.length = m * 1) (hnews : ∀ j u, news[j]? = some u → w.cell? (ad.add j) = some u) (h1 : ∀ u ∈ news, u.oneCell' = true)
  (h63 : n + m ≤ maxLen) (hbytes : (n + m) * bytes ≤ 140737488355328) (hbase : base ≤ w.heap.size)
  (h : ∀ v' w', w'.ownsRow base e 1 v' (n + m) (xs ++ news) → w.grownBy w' v.ownBlock → w'.ownsRow base e 1 v n xs → K (a.put o.dst v') w') :
  if Region.wanted o (yielded ops a.tmps) = true then Oper.wp P o a w K Q else E := by
 have hw : Region.wanted o (yielded ops a.tmps) = true := by simp [Region.wanted, hgd]
 rw [if_pos hw]
 rw [← hsize] at hown hl hzs h
 obtain ⟨v', w', hr, h2, h3, h4⟩ := run_append_keep (P := P) w base t o.type e i z bytes ht hi hz hby hzs (by omega) v n xs hown ad m c news hl hnews h1 h63 hbytes hbase
 unfold Oper.wp execOp
 simp only [ho, resolve, invoke, builtin, Sem.run_bind, Sem.run_pure, Result.andThen_ok, List.map_toArray, List.map_cons, List.map_nil, hs, hx, hr]
 exact h v' w' h2 h3 h4
theorem owns_below {w w' : World} {base : Nat} {e : TypeId} {size : Nat} {v : Value} {n : Nat} {xs : List Value} (h : w.ownsRow base e size v n xs) (hb : Below w.heap.size w w') : w'.ownsRow base e size v n xs := by
 refine ⟨h.1, ?_⟩
 rcases h.2 with hn | ⟨g, cap, cur, rfl, hbg, hg, rest⟩
 ·exact .inl hn
 ·exact .inr ⟨g, cap, cur, rfl, hbg, (hb.block g (Array.getElem?_eq_some_iff.1 hg).1).trans hg, rest⟩
section
variable {B G k : Nat} {u : Value} {xs : List Value} {op ak an bk bn : Int} {W : World}
theorem sv_below {w1 w2 : World} (hs : w1.cell? ⟨G, 1, none⟩ = some (.int .i64 op) ∧ w1.cell? ⟨G, 2, none⟩ = some (.int .i64 ak) ∧ w1.cell? ⟨G, 3, none⟩ = some (.int .i64 an) ∧ w1.cell? ⟨G, 4, none⟩ = some (.int .i64 bk) ∧ w1.cell? ⟨G, 5, none⟩ = some (.int .i64 bn) ∧ Hid (Below B W w1) ∧ Hid (w1.ownsRow B 3 1 u k xs)) (hB : B ≤ W.heap.size) (hb : Below w1.heap.size w1 w2) : w2.cell? ⟨G, 1, none⟩ = some (.int .i64 op) ∧ w2.cell? ⟨G, 2, none⟩ = some (.int .i64 ak) ∧ w2.cell? ⟨G, 3, none⟩ = some (.int .i64 an) ∧ w2.cell? ⟨G, 4, none⟩ = some (.int .i64 bk) ∧ w2.cell? ⟨G, 5, none⟩ = some (.int .i64 bn) ∧ Hid (Below B W w2) ∧ Hid (w2.ownsRow B 3 1 u k xs) := by
 obtain ⟨c1, c2, c3, c4, c5, hx, ho⟩ := hs
 exact ⟨ext_cell hb c1, ext_cell hb c2, ext_cell hb c3, ext_cell hb c4, ext_cell hb c5, hx.out.trans (hb.mono (Nat.le_trans hB hx.out.size)), owns_below ho.out hb⟩
theorem sv_grown {w1 w2 : World} (hs : w1.cell? ⟨G, 1, none⟩ = some (.int .i64 op) ∧ w1.cell? ⟨G, 2, none⟩ = some (.int .i64 ak) ∧ w1.cell? ⟨G, 3, none⟩ = some (.int .i64 an) ∧ w1.cell? ⟨G, 4, none⟩ = some (.int .i64 bk) ∧ w1.cell? ⟨G, 5, none⟩ = some (.int .i64 bn) ∧ Hid (Below B W w1) ∧ Hid (w1.ownsRow B 3 1 u k xs)) (hB : B ≤ W.heap.size) (hg : w1.grownBy w2 u.ownBlock) (ho2 : w2.ownsRow B 3 1 u k xs) (hG : ∀ j, u.ownBlock = some j → B ≤ j ∧ j < G) : w2.cell? ⟨G, 1, none⟩ = some (.int .i64 op) ∧ w2.cell? ⟨G, 2, none⟩ = some (.int .i64 ak) ∧ w2.cell? ⟨G, 3, none⟩ = some (.int .i64 an) ∧ w2.cell? ⟨G, 4, none⟩ = some (.int .i64 bk) ∧ w2.cell? ⟨G, 5, none⟩ = some (.int .i64 bn) ∧ Hid (Below B W w2) ∧ Hid (w2.ownsRow B 3 1 u k xs) := by
 obtain ⟨c1, c2, c3, c4, c5, hx, ho⟩ := hs
 have far : ∀ j v, w1.cell? ⟨G, j, none⟩ = some v → w2.cell? ⟨G, j, none⟩ = some v := fun j v h =>
  (World.cell?_of_block (hg.block G (World.block_lt_of_cell? w1 ⟨G, j, none⟩ h) (fun e => by have := (hG G e.symm).2; omega))).trans h
 exact ⟨far _ _ c1, far _ _ c2, far _ _ c3, far _ _ c4, far _ _ c5, hx.out.grown hg (Nat.le_trans hB hx.out.size) (fun j hj => (hG j hj).1), ho2⟩
end
def sVal (zs : List Int) (s : St) : Int := reckV s.op (valV s.ak s.an zs) (valV s.bk s.bn zs)
def allS (zs : List Int) (ss : List St) : List Int := ss.map (sVal zs)
theorem take_vals (zs : List Int) (ss : List St) (k : Nat) (h : k < ss.length) : (allS zs ss).take (k + 1) = (allS zs ss).take k ++ [sVal zs (ss.getD k s0)] := by
 rw [List.take_succ_eq_append_getElem (by simpa [allS] using h)]
 simp [allS, List.getD, h]
variable (ra ga sa : Option Addr) (rc gc sc : Nat) (rs : List Int) (gs : List Gd) (ss : List St) (za : Option Addr) (zc : Nat) (zs : List Int)
set_option maxHeartbeats 4000000 in
theorem setValues_own (w : World) (ht : IsTx w ra ga sa rs gs ss) (hz : IsInts w za zs) (hzl0 : zs.length ≤ maxLen) (hlen : zs.length = rs.length) (hs0 : firstNZ (ss.map (sErr rs.length)) = 0) (h3 : ss.length ≤ 3) :
  Calls Tryz.prog 149 #[.agg #[.slice ra rs.length rc, .slice ga gs.length gc, .slice sa ss.length sc], .slice za zs.length zc] w fun e w' => ∃ v, e = .returned v ∧ w'.ownsRow (w.heap.size + 1) 3 1 v ss.length ((allS zs ss).map (Value.int .i64)) ∧ Below w.heap.size w w' := by
 have hzl : Hid (zs.length ≤ maxLen) := hzl0
 have HZ : Hid (IsInts w za zs) := hz
 have HG : Hid (firstNZ (ss.map (sErr rs.length)) = 0) := hs0
 have HL : Hid (zs.length = rs.length) := hlen
 obtain ⟨i0, hi, hz0, hz1, hz2⟩ := info_parts Tryz.info3
 have hal : Hid ((allS zs ss).length = ss.length) := by simp [allS, Hid]
 obtain ⟨_, _, hgs, _, _, _⟩ := ht
 obtain ⟨B, hB⟩ : ∃ B, B = w.heap.size + 1 := ⟨_, rfl⟩
 rw [← hB]
 clear hzl0 hz hs0 hlen
 go_enter Tryz.func149, Tryz.ntmps149
 go_wp2
 go_loopw [5, 7, 11] (fun v _ i wr => ∃ k : Nat, k ≤ ss.length ∧ i = .int .i64 k ∧ wr.ownsRow B 3 1 v k (((allS zs ss).take k).map (Value.int .i64)) ∧ Below B (w.alloc (.cells #[.slice ra rs.length rc, .slice ga gs.length gc, .slice sa ss.length sc] 79)) wr) (fun _ _ i _ => ss.length - (intOf i).toNat)
 case atStart => exact ⟨0, Nat.zero_le _, rfl, World.ownsRow_nil _ _ _ _, Below.refl _ _⟩
 case round =>
  obtain ⟨k, hk, rfl, hown, hnx⟩ := hrel
  have hsz : B ≤ wr.heap.size := by have := hnx.size; simp at this; omega
  have hnx' : Below w.heap.size w wr := (grow_alloc (Below.refl _ _) _).trans (hnx.mono (by omega))
  by_cases hlt : k < ss.length
  ·obtain ⟨b, off, rfl, hb, c0, c1, c2, c3, c4, c5⟩ := hgs k hlt
   have up : ∀ j u, w.cell? ⟨b, j, none⟩ = some u → wr.cell? ⟨b, j, none⟩ = some u := fun j u h =>
    (hnx'.cell (p := ⟨b, j, none⟩) hb).trans h
   have d0 := up _ _ c0
   have d1 := up _ _ c1
   have d2 := up _ _ c2
   have d3 := up _ _ c3
   have d4 := up _ _ c4
   have d5 := up _ _ c5
   have HT : Hid ((allS zs ss).take (k + 1) = (allS zs ss).take k ++ [sVal zs (ss.getD k s0)]) := take_vals zs ss k hlt
   have hE := map_zero _ ss s0 HG.out k hlt
   clear c0 c1 c2 c3 c4 c5 up hgs
   generalize (ss.getD k s0) = s at *
   obtain ⟨key, op, ak, an, bk, bn⟩ := s
   simp only at d0 d1 d2 d3 d4 d5
   obtain ⟨xA, xB, xC⟩ := sErr_zero hE
   rw [← HL.out] at xB xC
   have hA : Hid (reckE op = 0) := xA
   have hBB : Hid (chkV ak an zs.length = 0) := xB
   have hC : Hid (chkV bk bn zs.length = 0) := xC
   clear hE xA xB xC
   go_wp2_with fail
   generalize hxs : ((allS zs ss).take k).map (Value.int .i64) = xs at *
   have HXS : Hid (((allS zs ss).take k).map (Value.int .i64) = xs) := hxs
   have hWr : Below wr.heap.size wr (wr.alloc (.cells #[.int .i64 key, .int .i64 op, .int .i64 ak, .int .i64 an, .int .i64 bk, .int .i64 bn] 154)) := grow_alloc (Below.refl _ _) _
   have hW : Hid (Below w.heap.size w (wr.alloc (.cells #[.int .i64 key, .int .i64 op, .int .i64 ak, .int .i64 an, .int .i64 bk, .int .i64 bn] 154))) := grow_trans hnx' hWr
   have y1 : (wr.alloc (.cells #[.int .i64 key, .int .i64 op, .int .i64 ak, .int .i64 an, .int .i64 bk, .int .i64 bn] 154)).cell? ⟨wr.heap.size, 1, none⟩ = some (.int .i64 op) := by simp
   have y2 : (wr.alloc (.cells #[.int .i64 key, .int .i64 op, .int .i64 ak, .int .i64 an, .int .i64 bk, .int .i64 bn] 154)).cell? ⟨wr.heap.size, 2, none⟩ = some (.int .i64 ak) := by simp
   have y3 : (wr.alloc (.cells #[.int .i64 key, .int .i64 op, .int .i64 ak, .int .i64 an, .int .i64 bk, .int .i64 bn] 154)).cell? ⟨wr.heap.size, 3, none⟩ = some (.int .i64 an) := by simp
   have y4 : (wr.alloc (.cells #[.int .i64 key, .int .i64 op, .int .i64 ak, .int .i64 an, .int .i64 bk, .int .i64 bn] 154)).cell? ⟨wr.heap.size, 4, none⟩ = some (.int .i64 bk) := by simp
   have y5 : (wr.alloc (.cells #[.int .i64 key, .int .i64 op, .int .i64 ak, .int .i64 an, .int .i64 bk, .int .i64 bn] 154)).cell? ⟨wr.heap.size, 5, none⟩ = some (.int .i64 bn) := by simp
   have RB : Hid (Below B (w.alloc _) (wr.alloc (.cells #[.int .i64 key, .int .i64 op, .int .i64 ak, .int .i64 an, .int .i64 bk, .int .i64 bn] 154))) := hnx.trans (hWr.mono hsz)
   have HO : Hid ((wr.alloc (.cells #[.int .i64 key, .int .i64 op, .int .i64 ak, .int .i64 an, .int .i64 bk, .int .i64 bn] 154)).ownsRow B 3 1 u5 k xs) := hown.alloc _
   have hGo : Hid (∀ j, u5.ownBlock = some j → B ≤ j ∧ j < wr.heap.size) := fun j hj => hown.lt j hj
   have hBW : B ≤ (wr.alloc (.cells #[.int .i64 key, .int .i64 op, .int .i64 ak, .int .i64 an, .int .i64 bk, .int .i64 bn] 154)).heap.size := by simp; omega
   generalize wr.alloc (.cells #[.int .i64 key, .int .i64 op, .int .i64 ak, .int .i64 an, .int .i64 bk, .int .i64 bn] 154) = W at *
   generalize wr.heap.size = G at *
   have HS0 : Hid (W.cell? ⟨G, 1, none⟩ = some (.int .i64 op) ∧ W.cell? ⟨G, 2, none⟩ = some (.int .i64 ak) ∧ W.cell? ⟨G, 3, none⟩ = some (.int .i64 an) ∧ W.cell? ⟨G, 4, none⟩ = some (.int .i64 bk) ∧ W.cell? ⟨G, 5, none⟩ = some (.int .i64 bn) ∧ Hid (Below B W W) ∧ Hid (W.ownsRow B 3 1 u5 k xs)) := ⟨y1, y2, y3, y4, y5, Below.refl _ _, HO⟩
   clear hWr d0 d1 d2 d3 d4 d5 hnx hown hxs HO y1 y2 y3 y4 y5
   have hupW : Hid (∀ w', Below B W w' → Below w.heap.size w w') := fun w' h => hW.out.trans (h.mono (by omega))
   go_region_held3 (fun w' => w'.cell? ⟨G, 1, none⟩ = some (.int .i64 op) ∧ w'.cell? ⟨G, 2, none⟩ = some (.int .i64 ak) ∧ w'.cell? ⟨G, 3, none⟩ = some (.int .i64 an) ∧ w'.cell? ⟨G, 4, none⟩ = some (.int .i64 bk) ∧ w'.cell? ⟨G, 5, none⟩ = some (.int .i64 bn) ∧ Hid (Below B W w') ∧ Hid (w'.ownsRow B 3 1 u5 k xs)) ((first | exact sv_below HS0.out hBW (grow_drew (Below.refl _ _)) | exact sv_below (by assumption) hBW (by assumption) | exact sv_below (by assumption) hBW (grow_alloc (Below.refl _ _) _) | exact sv_grown (by assumption) hBW (by assumption) (by assumption) hGo.out))
    (first
     | (go_at_call_of 159 (Value.agg #[.int .i64 ak, .int .i64 an]); refine (txnValue_ok ak an zs za zc _ hzl.out ?_ hBB.out).mono ?_; (refine HZ.out.below (hupW.out _ ?_); go_split_ands; (refine Hid.out ?_; assumption)); rintro e w' ⟨rfl, hbx⟩)
     | (go_at_call_of 159 (Value.agg #[.int .i64 bk, .int .i64 bn]); refine (txnValue_ok bk bn zs za zc _ hzl.out ?_ hC.out).mono ?_; (refine HZ.out.below (hupW.out _ ?_); go_split_ands; (refine Hid.out ?_; assumption)); rintro e w' ⟨rfl, hbx⟩)
     | (go_at_call 158; refine (reckon_any op (valV ak an zs) (valV bk bn zs) _).mono ?_; rintro e w' ⟨rfl, hbx⟩)
     | (go_at_call 139; refine (gotInt_ok _ _ hA.out _).mono ?_; rintro e w' ⟨rfl, rfl⟩)
     | (refine step_append_keep (by rfl) _ _ _ (by rfl) B 3 i0 (.int .i64 0) 8 Tryz.underlying25 hi hz0 hz1 hz2 rfl u5 k xs (by rfl) ?_ _ 1 1 [.int .i64 (reckV op (valV ak an zs) (valV bk bn zs))] (by rfl) (by rfl) (news_at _ _ _ (by simp)) (ints_oneCell .i64 [_]) (by unfold maxLen; omega) (by omega) ?_ ?_; (go_split_ands; refine Hid.out ?_; assumption); (go_split_ands; refine Nat.le_trans hBW (Below.size (B := B) (Hid.out ?_)); assumption); intro v' w1 hown' hgrow hkeep))
   have R : w1.ownsRow B 3 1 v' (k + 1) (((allS zs ss).take (k + 1)).map (Value.int .i64)) := by
    rw [HT.out, List.map_append, HXS.out]; exact hown'
   go_split_ands
   have RB2 : Below B W w1 := by
    refine Hid.out ?_
    assumption
   have RB3 := RB.out.trans RB2
   clear hown' hgrow hkeep HS0
   go_wp2
   go_roundw
   case rel => exact ⟨k + 1, by omega, by go_num, R, RB3⟩
   case measure => simp [intOf]; omega
  ·have R : wr.ownsRow B 3 1 u5 ss.length ((allS zs ss).map (Value.int .i64)) := by
    have hkk : k = ss.length := by omega
    rw [hkk, List.take_of_length_le (by rw [hal.out]; exact Nat.le_refl _)] at hown
    exact hown
   clear hown hnx hgs
   go_wp2
   go_ret
   exact ⟨_, rfl, R, hnx'⟩
end Go.Proofs.YtebjkmknhpgemaaGreat
namespace Go.Proofs.YtebjkmknhpgemaaGreat
open Go.RowKit
def IsAt (lo hi : Nat) (w : World) (a : Option Addr) (zs : List Int) : Prop :=
 ∀ i, i < zs.length → ∃ b off, a = some ⟨b, off, none⟩ ∧ lo ≤ b ∧ b < hi ∧ w.cell? ⟨b, off + i, none⟩ = some (.int .i64 (zs.getD i 0))
theorem IsAt.ints {lo hi : Nat} {w : World} {a : Option Addr} {zs : List Int} (h : IsAt lo hi w a zs) (hh : hi ≤ w.heap.size) : IsInts w a zs := fun i hi' => by
 obtain ⟨b, off, ha, _, h2, hc⟩ := h i hi'
 exact ⟨b, off, ha, Nat.lt_of_lt_of_le h2 hh, hc⟩
theorem IsAt.below {lo hi : Nat} {w w' : World} {a : Option Addr} {zs : List Int} (h : IsAt lo hi w a zs) (hb : Below w.heap.size w w') : IsAt lo hi w' a zs := fun i hi' => by
 obtain ⟨b, off, ha, h1, h2, hc⟩ := h i hi'
 exact ⟨b, off, ha, h1, h2, ext_cell hb hc⟩
theorem IsAt.set {lo hi : Nat} {w : World} {a : Option Addr} {zs : List Int} (h : IsAt lo hi w a zs) (p : Addr) (v : Value) (hp : p.block < lo ∨ hi ≤ p.block) : IsAt lo hi (w.setCell p v) a zs := fun i hi' => by
 obtain ⟨b, off, ha, h1, h2, hc⟩ := h i hi'
 refine ⟨b, off, ha, h1, h2, ?_⟩
 rw [World.cell?_setCell_far _ _ _ _ (by simp; omega)]
 exact hc
theorem IsAt.widen {lo hi lo' hi' : Nat} {w : World} {a : Option Addr} {zs : List Int} (h : IsAt lo hi w a zs) (h1 : lo' ≤ lo) (h2 : hi ≤ hi') : IsAt lo' hi' w a zs := fun i hi'' => by
 obtain ⟨b, off, ha, h3, h4, hc⟩ := h i hi''
 exact ⟨b, off, ha, by omega, by omega, hc⟩
theorem at_of_owns {w : World} {base : Nat} {v : Value} {n : Nat} {zs : List Int} (h : w.ownsRow base 3 1 v n (zs.map (Value.int .i64))) : ∃ a cap, v = .slice a zs.length cap ∧ IsAt base w.heap.size w a zs := by
 have hn : zs.length = n := by have := h.1; simpa using this
 rcases h.2 with ⟨rfl, h0⟩ | ⟨g, cap, cur, rfl, hb, hg, hnc, hcm, hcs, htake⟩
 ·refine ⟨none, 0, by rw [hn, h0], fun i hi => ?_⟩
  omega
 ·refine ⟨some ⟨g, 0, none⟩, cap, by rw [hn], fun i hi => ⟨g, 0, rfl, hb, (Array.getElem?_eq_some_iff.1 hg).1, ?_⟩⟩
  have hc := h.cellAt i (by omega)
  rw [Nat.zero_add, hc]
  simp [List.getD, hi]
theorem add_none (b off j : Nat) : (⟨b, off, none⟩ : Addr).add j = ⟨b, off + j, none⟩ := by
 unfold Addr.add
 by_cases h : j = 0
 ·subst h; simp
 ·simp [h]
theorem clone_own (zs : List Int) (ad : Addr) (zc : Nat) (w : World) (h4 : zs.length ≤ 4) (hz : IsInts w (some ad) zs) :
  Calls Tryz.prog 46 #[.slice (some ad) zs.length zc] w fun e w' => ∃ v, e = .returned v ∧ w'.ownsRow w.heap.size 3 1 v zs.length (zs.map (Value.int .i64)) ∧ Below w.heap.size w w' := by
 have q24 : ∀ (w : World) (a : Option Addr) (n c n' c' : Nat), (binOp .eql 25 (.slice a n c) (.slice none n' c')).run Tryz.prog w = .ok (.bool a.isNone) w := fun w a n c n' c' => Lib.run_eql_slice_nil w _ _ a n c n' c' Tryz.underlying25
 obtain ⟨i0, hi, hz0, hz1, hz2⟩ := info_parts Tryz.info3
 have hnews : ∀ (o : Obj) j u, (zs.map (Value.int .i64))[j]? = some u → (w.alloc o).cell? (ad.add j) = some u := by
  intro o j u hj
  have hlt : j < zs.length := by
   have := (List.getElem?_eq_some_iff.1 hj).1
   simpa using this
  obtain ⟨b, off, ha, hb, hc⟩ := hz j hlt
  injection ha with ha
  subst ha
  rw [add_none, World.cell?_alloc_lt _ _ _ hb, hc]
  simp [hlt] at hj
  simp [List.getD, hlt, hj]
 clear hz
 go_enter Tryz.func46, Tryz.ntmps46
 go_wp2_with (first
  | (at_builtin; refine wpList_append_own _ rfl _ _ 25 rfl w.heap.size 3 i0 (.int .i64 0) 1 8 Tryz.underlying25 hi hz0 hz1 hz2 rfl (by decide) _ 0 [] rfl (World.ownsRow_lit w #[] 0 (Nat.le_refl _) (by decide) rfl) ad zs.length zc (zs.map (Value.int .i64)) rfl (by simp) (hnews _) (ints_oneCell .i64 zs) (by unfold maxLen; omega) (by omega) (by simp) ?_; intro v' w1 hown' hgrow _)
  | go_in)
 have RB : Below w.heap.size w w1 := (grow_alloc (Below.refl _ _) _).grown hgrow (by simp) (fun j hj => by have hj' : some w.heap.size = some j := hj; injection hj' with hj'; exact Nat.le_of_eq hj')
 simp only [Nat.zero_add, List.nil_append] at hown'
 clear hgrow hnews
 go_wp2
 go_ret
 exact ⟨_, rfl, hown', RB⟩
theorem clone_nil (w : World) : Calls Tryz.prog 46 #[.slice none 0 0] w fun e w' => e = .returned (.slice none 0 0) ∧ w' = w := by
 have q24 : ∀ (w : World) (a : Option Addr) (n c n' c' : Nat), (binOp .eql 25 (.slice a n c) (.slice none n' c')).run Tryz.prog w = .ok (.bool a.isNone) w := fun w a n c n' c' => Lib.run_eql_slice_nil w _ _ a n c n' c' Tryz.underlying25
 go_enter Tryz.func46, Tryz.ntmps46
 go_wp2
 go_ret
 exact ⟨rfl, rfl⟩
theorem clone_any (zs : List Int) (za : Option Addr) (zc : Nat) (w : World) (h4 : zs.length ≤ 4) (hz : IsInts w za zs) (hn : za = none → zc = 0) :
  Calls Tryz.prog 46 #[.slice za zs.length zc] w fun e w' => ∃ a cap, e = .returned (.slice a zs.length cap) ∧ IsAt w.heap.size w'.heap.size w' a zs ∧ Below w.heap.size w w' := by
 cases za with
 | none =>
  have hzs : zs = [] := by
   cases zs with
   | nil => rfl
   | cons z t =>
    obtain ⟨b, off, ha, _⟩ := hz 0 (by simp)
    cases ha
  subst hzs
  rw [hn rfl]
  exact (clone_nil w).mono fun e w' ⟨he, hw⟩ => ⟨none, 0, he, fun i hi => absurd hi (by simp), by rw [hw]; exact Below.refl _ _⟩
 | some ad =>
  exact (clone_own zs ad zc w h4 hz).mono fun e w' ⟨v, he, ho, hb⟩ => by
   obtain ⟨a, cap, rfl, hza⟩ := at_of_owns ho
   exact ⟨a, cap, he, hza, hb⟩
variable (ra ga sa : Option Addr) (rc gc sc : Nat) (rs : List Int) (gs : List Gd) (ss : List St) (za : Option Addr) (zc : Nat) (zs : List Int)
theorem setValues_at (w : World) (ht : IsTx w ra ga sa rs gs ss) (hz : IsInts w za zs) (hzl0 : zs.length ≤ maxLen) (hlen : zs.length = rs.length) (hs0 : firstNZ (ss.map (sErr rs.length)) = 0) (h3 : ss.length ≤ 3) :
  Calls Tryz.prog 149 #[.agg #[.slice ra rs.length rc, .slice ga gs.length gc, .slice sa ss.length sc], .slice za zs.length zc] w fun e w' => ∃ a cap, e = .returned (.slice a (allS zs ss).length cap) ∧ IsAt (w.heap.size + 1) w'.heap.size w' a (allS zs ss) ∧ Below w.heap.size w w' :=
 (setValues_own ra ga sa rc gc sc rs gs ss za zc zs w ht hz hzl0 hlen hs0 h3).mono fun e w' ⟨v, he, ho, hb⟩ => by
  obtain ⟨a, cap, rfl, hz⟩ := at_of_owns ho
  exact ⟨a, cap, he, hz, hb⟩
def madeOf (zs : List Int) (gs : List Gd) (ss : List St) : List Int := if allG zs gs then allS zs ss else []
set_option maxHeartbeats 2000000 in
theorem outcome_no (w : World) (ht : IsTx w ra ga sa rs gs ss) (hz : IsInts w za zs) (hn : za = none → zc = 0) (h4 : zs.length ≤ 4) (hlen : zs.length = rs.length) (hg0 : firstNZ (gs.map (gErr rs.length)) = 0) (hd : allG zs gs = false) :
  Calls Tryz.prog 121 #[.agg #[.slice ra rs.length rc, .slice ga gs.length gc, .slice sa ss.length sc], .slice za zs.length zc] w fun e w' => ∃ va vc, e = .returned (.agg #[.bool false, .slice va zs.length vc, .slice none 0 0]) ∧ IsAt w.heap.size w'.heap.size w' va zs ∧ Below w.heap.size w w' := by
 have hzl : Hid (zs.length ≤ maxLen) := by show _ ≤ _; unfold maxLen; omega
 have HT : Hid (IsTx w ra ga sa rs gs ss) := ht
 have HZ : Hid (IsInts w za zs) := hz
 have HG : Hid (firstNZ (gs.map (gErr rs.length)) = 0) := hg0
 have HL : Hid (zs.length = rs.length) := hlen
 have HN : Hid (za = none → zc = 0) := hn
 have HD : Hid (allG zs gs = false) := hd
 clear ht hz hg0 hlen hn hd
 go_enter Tryz.func121, Tryz.ntmps121
 go_wp2_with fail
 refine (guardsHold_ok ra ga sa rc gc sc rs gs ss za zc zs _ (HT.out.below (by repeat (first | assumption | exact Below.refl _ _ | refine grow_drew ?_ | refine grow_alloc ?_ _ | refine grow_trans ?_ (by assumption)))) (HZ.out.below (by repeat (first | assumption | exact Below.refl _ _ | refine grow_drew ?_ | refine grow_alloc ?_ _ | refine grow_trans ?_ (by assumption)))) hzl.out HL.out HG.out).mono ?_
 rintro e w1 ⟨rfl, hb1⟩
 rw [HD.out]
 go_wp2_with fail
 have B1 : Below w.heap.size w w1 := by repeat (first | assumption | exact Below.refl _ _ | refine grow_drew ?_ | refine grow_alloc ?_ _ | refine grow_trans ?_ (by assumption))
 refine (clone_any zs za zc _ h4 (HZ.out.below B1) HN.out).mono ?_
 rintro e w2 ⟨va, vc, rfl, hva, hb2⟩
 have z0 : w1.cell? ⟨w.heap.size + 1, 0, none⟩ = some (.bool false) := (hb1.cell (by simp)).trans (by simp)
 have z1 : w1.cell? ⟨w.heap.size + 1, 1, none⟩ = some (.slice none 0 0) := (hb1.cell (by simp)).trans (by simp)
 have z2 : w1.cell? ⟨w.heap.size + 1, 2, none⟩ = some (.slice none 0 0) := (hb1.cell (by simp)).trans (by simp)
 have f1 : ∀ j, w1.frozen? ⟨w.heap.size + 1, j, none⟩ = false := fun j => (hb1.frozen (p := ⟨w.heap.size + 1, j, none⟩) (by simp)).trans (by simp)
 have x0 := ext_cell hb2 z0
 have x1 := ext_cell hb2 z1
 have x2 := ext_cell hb2 z2
 have hq := World.block_lt_of_cell? w1 _ z0
 have g1 : ∀ j, w2.frozen? ⟨w.heap.size + 1, j, none⟩ = false := fun j => (hb2.frozen (p := ⟨w.heap.size + 1, j, none⟩) hq).trans (f1 j)
 have hq2 : w.heap.size + 1 < w2.heap.size := Nat.lt_of_lt_of_le hq hb2.size
 have X0 := fun o => ext_cell (grow_alloc (Below.refl w2.heap.size w2) o) x0
 have X1 := fun o => ext_cell (grow_alloc (Below.refl w2.heap.size w2) o) x1
 have X2 := fun o => ext_cell (grow_alloc (Below.refl w2.heap.size w2) o) x2
 have G1 : ∀ o j, (w2.alloc o).frozen? ⟨w.heap.size + 1, j, none⟩ = false := fun o j => ((grow_alloc (Below.refl w2.heap.size w2) o).frozen (p := ⟨w.heap.size + 1, j, none⟩) hq2).trans (g1 j)
 have B2 := grow_trans B1 hb2
 have HB1 : Hid (w.heap.size ≤ w1.heap.size) := B1.size
 clear z0 z1 z2 f1 HT HZ HG HL HN HD
 go_wp2
 have r0 : ((((w2.setCell ⟨w.heap.size + 1, 0, none⟩ (.bool false)).setCell ⟨w.heap.size + 1, 1, none⟩ (.slice va zs.length vc)).setCell ⟨w.heap.size + 1, 2, none⟩ (.slice none 0 0)).alloc (.cells #[.bool false, .slice va zs.length vc, .slice none 0 0] 157)).cell? ⟨w.heap.size + 1, 0, none⟩ = some (.bool false) := by rw [World.cell?_alloc_lt _ _ _ (by simp; omega)]; simp [go_sem, x0]
 have r1 : ((((w2.setCell ⟨w.heap.size + 1, 0, none⟩ (.bool false)).setCell ⟨w.heap.size + 1, 1, none⟩ (.slice va zs.length vc)).setCell ⟨w.heap.size + 1, 2, none⟩ (.slice none 0 0)).alloc (.cells #[.bool false, .slice va zs.length vc, .slice none 0 0] 157)).cell? ⟨w.heap.size + 1, 1, none⟩ = some (.slice va zs.length vc) := by rw [World.cell?_alloc_lt _ _ _ (by simp; omega)]; simp [go_sem, x1]
 have r2 : ((((w2.setCell ⟨w.heap.size + 1, 0, none⟩ (.bool false)).setCell ⟨w.heap.size + 1, 1, none⟩ (.slice va zs.length vc)).setCell ⟨w.heap.size + 1, 2, none⟩ (.slice none 0 0)).alloc (.cells #[.bool false, .slice va zs.length vc, .slice none 0 0] 157)).cell? ⟨w.heap.size + 1, 2, none⟩ = some (.slice none 0 0) := by rw [World.cell?_alloc_lt _ _ _ (by simp; omega)]; simp [go_sem, x2]
 refine bodyPost_ret (v := .agg #[.bool false, .slice va zs.length vc, .slice none 0 0]) (by simp [results, Tryz.results121, go_sem, r0, r1, r2]) rfl ⟨va, vc, rfl, ?_, ?_⟩
 ·have h1 := ((hva.set ⟨w.heap.size + 1, 0, none⟩ (.bool false) (.inl hq)).set ⟨w.heap.size + 1, 1, none⟩ (.slice va zs.length vc) (.inl hq)).set ⟨w.heap.size + 1, 2, none⟩ (.slice none 0 0) (.inl hq)
  exact (h1.below (grow_alloc (Below.refl _ _) _)).widen HB1.out (by simp)
 ·exact grow_alloc (grow_set (grow_set (grow_set B2 (by simp) _) (by simp) _) (by simp) _) _
set_option maxHeartbeats 4000000 in
theorem outcome_yes (w : World) (ht : IsTx w ra ga sa rs gs ss) (hz : IsInts w za zs) (hn : za = none → zc = 0) (h4 : zs.length ≤ 4) (hlen : zs.length = rs.length) (hg0 : firstNZ (gs.map (gErr rs.length)) = 0) (hs0 : firstNZ (ss.map (sErr rs.length)) = 0) (h3 : ss.length ≤ 3) (hd : allG zs gs = true) :
  Calls Tryz.prog 121 #[.agg #[.slice ra rs.length rc, .slice ga gs.length gc, .slice sa ss.length sc], .slice za zs.length zc] w fun e w' => ∃ va vc ma mc, e = .returned (.agg #[.bool true, .slice va zs.length vc, .slice ma (allS zs ss).length mc]) ∧ IsAt w.heap.size w'.heap.size w' va zs ∧ IsAt w.heap.size w'.heap.size w' ma (allS zs ss) ∧ Below w.heap.size w w' := by
 have hzl : Hid (zs.length ≤ maxLen) := by show _ ≤ _; unfold maxLen; omega
 have HT : Hid (IsTx w ra ga sa rs gs ss) := ht
 have HZ : Hid (IsInts w za zs) := hz
 have HG : Hid (firstNZ (gs.map (gErr rs.length)) = 0) := hg0
 have HS : Hid (firstNZ (ss.map (sErr rs.length)) = 0) := hs0
 have HL : Hid (zs.length = rs.length) := hlen
 have HN : Hid (za = none → zc = 0) := hn
 have HD : Hid (allG zs gs = true) := hd
 clear ht hz hg0 hlen hn hd hs0
 go_enter Tryz.func121, Tryz.ntmps121
 go_wp2_with fail
 refine (guardsHold_ok ra ga sa rc gc sc rs gs ss za zc zs _ (HT.out.below (by repeat (first | assumption | exact Below.refl _ _ | refine grow_drew ?_ | refine grow_alloc ?_ _ | refine grow_trans ?_ (by assumption)))) (HZ.out.below (by repeat (first | assumption | exact Below.refl _ _ | refine grow_drew ?_ | refine grow_alloc ?_ _ | refine grow_trans ?_ (by assumption)))) hzl.out HL.out HG.out).mono ?_
 rintro e w1 ⟨rfl, hb1⟩
 rw [HD.out]
 go_wp2_with fail
 have B1 : Below w.heap.size w w1 := by repeat (first | assumption | exact Below.refl _ _ | refine grow_drew ?_ | refine grow_alloc ?_ _ | refine grow_trans ?_ (by assumption))
 refine (clone_any zs za zc _ h4 (HZ.out.below B1) HN.out).mono ?_
 rintro e w2 ⟨va, vc, rfl, hva, hb2⟩
 have bx0 : w1.cell? ⟨w.heap.size, 0, none⟩ = some (.slice ra rs.length rc) := (hb1.cell (by simp; omega)).trans ((World.cell?_alloc_lt _ _ _ (by simp)).trans (by simp))
 have bx1 : w1.cell? ⟨w.heap.size, 1, none⟩ = some (.slice ga gs.length gc) := (hb1.cell (by simp; omega)).trans ((World.cell?_alloc_lt _ _ _ (by simp)).trans (by simp))
 have bx2 : w1.cell? ⟨w.heap.size, 2, none⟩ = some (.slice sa ss.length sc) := (hb1.cell (by simp; omega)).trans ((World.cell?_alloc_lt _ _ _ (by simp)).trans (by simp))
 have z0 : w1.cell? ⟨w.heap.size + 1, 0, none⟩ = some (.bool false) := (hb1.cell (by simp)).trans (by simp)
 have z1 : w1.cell? ⟨w.heap.size + 1, 1, none⟩ = some (.slice none 0 0) := (hb1.cell (by simp)).trans (by simp)
 have z2 : w1.cell? ⟨w.heap.size + 1, 2, none⟩ = some (.slice none 0 0) := (hb1.cell (by simp)).trans (by simp)
 have f1 : ∀ j, w1.frozen? ⟨w.heap.size + 1, j, none⟩ = false := fun j => (hb1.frozen (p := ⟨w.heap.size + 1, j, none⟩) (by simp)).trans (by simp)
 have hq := World.block_lt_of_cell? w1 _ z0
 have hq2 : w.heap.size + 1 < w2.heap.size := Nat.lt_of_lt_of_le hq hb2.size
 have c0 := fun o => ext_cell (grow_alloc hb2 o) bx0
 have c1 := fun o => ext_cell (grow_alloc hb2 o) bx1
 have c2 := fun o => ext_cell (grow_alloc hb2 o) bx2
 have B2 := grow_trans B1 hb2
 clear bx0 bx1 bx2
 go_wp2_with fail
 refine (setValues_at ra ga sa rc gc sc rs gs ss za zc zs _ (HT.out.below (grow_alloc B2 _)) (HZ.out.below (grow_alloc B2 _)) hzl.out HL.out HS.out h3).mono ?_
 rintro e w3 ⟨ma, mc, rfl, hma, hb3⟩
 have hb13 : Below w1.heap.size w1 w3 := grow_trans (grow_alloc hb2 _) hb3
 have x0 := ext_cell hb13 z0
 have x1 := ext_cell hb13 z1
 have x2 := ext_cell hb13 z2
 have g1 : ∀ j, w3.frozen? ⟨w.heap.size + 1, j, none⟩ = false := fun j => (hb13.frozen (p := ⟨w.heap.size + 1, j, none⟩) hq).trans (f1 j)
 have o0 : w3.cell? ⟨w2.heap.size, 0, none⟩ = some (.bool true) := (hb3.cell (by simp)).trans (by simp)
 have o1 : w3.cell? ⟨w2.heap.size, 1, none⟩ = some (.slice va zs.length vc) := (hb3.cell (by simp)).trans (by simp)
 have o2 : w3.cell? ⟨w2.heap.size, 2, none⟩ = some (.slice none 0 0) := (hb3.cell (by simp)).trans (by simp)
 have og : ∀ j, w3.frozen? ⟨w2.heap.size, j, none⟩ = false := fun j => (hb3.frozen (p := ⟨w2.heap.size, j, none⟩) (by simp)).trans (by simp)
 have hne : ¬ w2.heap.size = w.heap.size + 1 := by omega
 have B3 : Below w.heap.size w w3 := grow_trans (grow_alloc B2 _) hb3
 have HB1 : Hid (w.heap.size ≤ w1.heap.size) := B1.size
 have hs3 : w2.heap.size + 1 ≤ w3.heap.size := by have := hb3.size; simpa using this
 have hva3 : IsAt w1.heap.size w2.heap.size w3 va zs := (hva.below (grow_alloc (Below.refl _ _) _)).below hb3
 have hma3 : IsAt (w2.heap.size + 1) w3.heap.size w3 ma (allS zs ss) := hma.widen (by simp) (Nat.le_refl _)
 have HLW : Hid (w1.heap.size ≤ w2.heap.size) := hb2.size
 clear z0 z1 z2 f1 HT HZ HG HL HN HD HS c0 c1 c2 hb1 hb2 hb3 hb13 hva hma B1 B2
 generalize w2.heap.size = q2 at *
 go_wp2
 refine bodyPost_ret (v := .agg #[.bool true, .slice va zs.length vc, .slice ma (allS zs ss).length mc]) (by simp [results, Tryz.results121, go_sem, x0, x1, x2]) rfl ⟨va, vc, ma, mc, rfl, ?_, ?_, ?_⟩
 ·have h1 := (((hva3.set ⟨q2, 2, none⟩ (.slice ma (allS zs ss).length mc) (.inr (Nat.le_refl _))).set ⟨w.heap.size + 1, 0, none⟩ (.bool true) (.inl hq)).set ⟨w.heap.size + 1, 1, none⟩ (.slice va zs.length vc) (.inl hq)).set ⟨w.heap.size + 1, 2, none⟩ (.slice ma (allS zs ss).length mc) (.inl hq)
  exact h1.widen HB1.out (by simp; omega)
 ·have h1 := (((hma3.set ⟨q2, 2, none⟩ (.slice ma (allS zs ss).length mc) (.inl (Nat.lt_succ_self _))).set ⟨w.heap.size + 1, 0, none⟩ (.bool true) (.inl (Nat.lt_succ_of_lt hq2))).set ⟨w.heap.size + 1, 1, none⟩ (.slice va zs.length vc) (.inl (Nat.lt_succ_of_lt hq2))).set ⟨w.heap.size + 1, 2, none⟩ (.slice ma (allS zs ss).length mc) (.inl (Nat.lt_succ_of_lt hq2))
  exact h1.widen (by omega) (by simp)
 ·exact grow_set (grow_set (grow_set (grow_set B3 (by simp; omega) _) (by simp) _) (by simp) _) (by simp) _
theorem outcome_ok (w : World) (ht : IsTx w ra ga sa rs gs ss) (hz : IsInts w za zs) (hn : za = none → zc = 0) (h4 : zs.length ≤ 4) (hlen : zs.length = rs.length) (hg0 : firstNZ (gs.map (gErr rs.length)) = 0) (hs0 : firstNZ (ss.map (sErr rs.length)) = 0) (h3 : ss.length ≤ 3) :
  Calls Tryz.prog 121 #[.agg #[.slice ra rs.length rc, .slice ga gs.length gc, .slice sa ss.length sc], .slice za zs.length zc] w fun e w' => ∃ va vc ma mc, e = .returned (.agg #[.bool (allG zs gs), .slice va zs.length vc, .slice ma (madeOf zs gs ss).length mc]) ∧ IsAt w.heap.size w'.heap.size w' va zs ∧ IsAt w.heap.size w'.heap.size w' ma (madeOf zs gs ss) ∧ Below w.heap.size w w' := by
 by_cases hd : allG zs gs = true
 ·have hm : madeOf zs gs ss = allS zs ss := by unfold madeOf; rw [if_pos hd]
  rw [hm, hd]
  exact outcome_yes ra ga sa rc gc sc rs gs ss za zc zs w ht hz hn h4 hlen hg0 hs0 h3 hd
 ·have hm : madeOf zs gs ss = [] := by unfold madeOf; rw [if_neg hd]
  have hd' : allG zs gs = false := by simpa using hd
  rw [hm, hd']
  exact (outcome_no ra ga sa rc gc sc rs gs ss za zc zs w ht hz hn h4 hlen hg0 hd').mono fun _ _ ⟨va, vc, he, h1, h2⟩ => ⟨va, vc, none, 0, he, h1, fun i hi => absurd hi (by simp), h2⟩
end Go.Proofs.YtebjkmknhpgemaaGreat
namespace Go.Proofs.YtebjkmknhpgemaaGreat
open Go.RowKit
variable (ra ga sa : Option Addr) (rc gc sc : Nat) (rs : List Int) (gs : List Gd) (ss : List St)
set_option maxHeartbeats 2000000 in
theorem locks_okA (w : World) (ht : IsTx w ra ga sa rs gs ss) (hc : chkTx rs gs ss = 0) (h3 : ss.length ≤ 3) :
  Calls Tryz.prog 97 #[.agg #[.slice ra rs.length rc, .slice ga gs.length gc, .slice sa ss.length sc]] w fun e w' => ∃ a cap, e = .returned (.tuple #[.slice a (lkTo rs (keysOf ss) 8).length cap, .int .i64 0]) ∧ (IsLks w' a (lkTo rs (keysOf ss) 8) ∧ ∀ ad, a = some ad → w.heap.size ≤ ad.block) ∧ Below w.heap.size w w' := by
 obtain ⟨i0, hi, hz0, hz1, hz2⟩ := info_parts Tryz.info134
 have HT : Hid (IsTx w ra ga sa rs gs ss) := ht
 have HC : Hid (chkTx rs gs ss = 0) := hc
 have hkl : Hid ((keysOf ss).length ≤ maxLen) := by rw [keys_len]; exact ht.ls
 clear ht hc
 go_enter Tryz.func97, Tryz.ntmps97
 go_wp2_with fail
 refine (txnCheck_any ra ga sa rc gc sc rs gs ss _ (HT.out.below (grow_alloc (Below.refl _ _) _))).mono ?_
 rintro e w1 ⟨rfl, hb1⟩
 rw [HC.out]
 have x0 : w1.cell? ⟨w.heap.size, 0, none⟩ = some (.slice ra rs.length rc) := (hb1.cell (by simp)).trans (by simp)
 have x1 : w1.cell? ⟨w.heap.size, 1, none⟩ = some (.slice ga gs.length gc) := (hb1.cell (by simp)).trans (by simp)
 have x2 : w1.cell? ⟨w.heap.size, 2, none⟩ = some (.slice sa ss.length sc) := (hb1.cell (by simp)).trans (by simp)
 have B1 : Below w.heap.size w w1 := grow_trans (grow_alloc (Below.refl _ _) _) hb1
 clear hb1 HC
 go_wp2_with fail
 refine (setKeys_any ra ga sa rc gc sc rs gs ss _ (HT.out.below B1) h3).mono ?_
 rintro e W ⟨ka, kc, rfl, hka, hbW⟩
 have y0 := ext_cell hbW x0
 have hW : Hid (Below w.heap.size w W) := grow_trans B1 hbW
 have hra : Hid (IsInts W ra rs) := HT.out.r.below hW.out
 have hlr : Hid (rs.length ≤ maxLen) := HT.out.lr
 have HKA : Hid (IsInts W ka (keysOf ss)) := hka
 have hq : w.heap.size < W.heap.size := World.block_lt_of_cell? W _ y0
 clear x0 x1 x2 B1 hbW HT hka
 generalize hB : W.heap.size = B at *
 go_wp2_with fail
 go_loopw [5, 7, 8, 16] (fun v _ _ i wr => ∃ k : Nat, k ≤ 8 ∧ i = .int .i64 k ∧ wr.ownsRow B 134 2 v (lkTo rs (keysOf ss) k).length (cellsL (lkTo rs (keysOf ss) k)) ∧ Below B W wr) (fun _ _ _ i _ => 8 - (intOf i).toNat)
 case atStart => exact ⟨0, Nat.zero_le _, rfl, World.ownsRow_nil _ _ _ _, Below.refl _ _⟩
 case round =>
  obtain ⟨k, hk, rfl, hown, hnx⟩ := hrel
  have hsz : B ≤ wr.heap.size := by have := hnx.size; omega
  have q0 : wr.cell? ⟨w.heap.size, 0, none⟩ = some (.slice ra rs.length rc) := (hnx.cell (p := ⟨w.heap.size, 0, none⟩) hq).trans y0
  have hll := lkTo_len rs (keysOf ss) k
  by_cases hlt : k < 8
  ·have hI1 : Hid (IsInts wr ka (keysOf ss)) := HKA.out.below (by rw [hB]; exact hnx)
   have hI2 : Hid (IsInts wr ra rs) := hra.out.below (by rw [hB]; exact hnx)
   by_cases m1 : (k : Int) ∈ keysOf ss
   ·have HS : Hid (lkTo rs (keysOf ss) (k + 1) = lkTo rs (keysOf ss) k ++ [((k : Int), true)]) := lkTo_set rs _ k m1
    have HD : Hid (decide ((k : Int) ∈ keysOf ss) = true) := decide_eq_true m1
    clear m1
    go_wp2_with fail
    refine (contains_any k (keysOf ss) ka kc _ hkl.out hI1.out).mono ?_
    rintro e w' ⟨rfl, rfl⟩
    rw [HD.out]
    go_wp2_with (first | (at_builtin; (refine wpList_append_own _ rfl _ _ 131 rfl B 134 i0 (.agg #[.int .i64 0, .bool false]) 2 16 Tryz.underlying131 hi hz0 hz1 hz2 rfl (by decide) _ _ _ rfl (hown.alloc _) _ 1 1 [.int .i64 k, .bool true] rfl rfl (news_lk _ _ _ _ (by simp)) (one_lk _ _) (by unfold maxLen; omega) (by omega) (by simp; omega) ?_); intro v' w1 hown' hgrow _) | go_in)
    have R : w1.ownsRow B 134 2 v' (lkTo rs (keysOf ss) (k + 1)).length (cellsL (lkTo rs (keysOf ss) (k + 1))) := by
     rw [HS.out, cellsL_append, List.length_append]; exact hown'
    have RB := (hnx.alloc hsz _).grown hgrow (by simp; omega) (fun j hj => (hown.lt j hj).1)
    clear hown' hgrow hown hnx
    go_wp2
    go_roundw
    case rel => exact ⟨k + 1, by omega, by go_num, R, RB⟩
    case measure => simp [intOf]; omega
   ·have HD : Hid (decide ((k : Int) ∈ keysOf ss) = false) := decide_eq_false m1
    by_cases m2 : (k : Int) ∈ rs
    ·have HS : Hid (lkTo rs (keysOf ss) (k + 1) = lkTo rs (keysOf ss) k ++ [((k : Int), false)]) := lkTo_read rs _ k m1 m2
     have HD2 : Hid (decide ((k : Int) ∈ rs) = true) := decide_eq_true m2
     clear m1 m2
     go_wp2_with fail
     refine (contains_any k (keysOf ss) ka kc _ hkl.out hI1.out).mono ?_
     rintro e w' ⟨rfl, rfl⟩
     rw [HD.out]
     go_wp2_with fail
     refine (contains_any k rs ra rc _ hlr.out hI2.out).mono ?_
     rintro e w' ⟨rfl, rfl⟩
     rw [HD2.out]
     go_wp2_with (first | (at_builtin; (refine wpList_append_own _ rfl _ _ 131 rfl B 134 i0 (.agg #[.int .i64 0, .bool false]) 2 16 Tryz.underlying131 hi hz0 hz1 hz2 rfl (by decide) _ _ _ rfl (hown.alloc _) _ 1 1 [.int .i64 k, .bool false] rfl rfl (news_lk _ _ _ _ (by simp)) (one_lk _ _) (by unfold maxLen; omega) (by omega) (by simp; omega) ?_); intro v' w1 hown' hgrow _) | go_in)
     have R : w1.ownsRow B 134 2 v' (lkTo rs (keysOf ss) (k + 1)).length (cellsL (lkTo rs (keysOf ss) (k + 1))) := by
      rw [HS.out, cellsL_append, List.length_append]; exact hown'
     have RB := (hnx.alloc hsz _).grown hgrow (by simp; omega) (fun j hj => (hown.lt j hj).1)
     clear hown' hgrow hown hnx
     go_wp2
     go_roundw
     case rel => exact ⟨k + 1, by omega, by go_num, R, RB⟩
     case measure => simp [intOf]; omega
    ·have HS : Hid (lkTo rs (keysOf ss) (k + 1) = lkTo rs (keysOf ss) k) := lkTo_none rs _ k m1 m2
     have HD2 : Hid (decide ((k : Int) ∈ rs) = false) := decide_eq_false m2
     clear m1 m2
     go_wp2_with fail
     refine (contains_any k (keysOf ss) ka kc _ hkl.out hI1.out).mono ?_
     rintro e w' ⟨rfl, rfl⟩
     rw [HD.out]
     go_wp2_with fail
     refine (contains_any k rs ra rc _ hlr.out hI2.out).mono ?_
     rintro e w' ⟨rfl, rfl⟩
     rw [HD2.out]
     go_wp2
     go_roundw
     case rel => exact ⟨k + 1, by omega, by go_num, by rw [HS.out]; exact hown, hnx⟩
     case measure => simp [intOf]; omega
  ·have hk8 : k = 8 := by omega
   subst hk8
   obtain ⟨a, cap, hv, hL⟩ := lks_of_owns hown rfl
   have hlow : Hid (∀ ad, a = some ad → w.heap.size ≤ ad.block) := fun ad e => by
    have h := (hown.lt ad.block (by rw [hv, e]; rfl)).1
    omega
   have RB : Below w.heap.size w wr := hW.out.trans (hnx.mono (by omega))
   rw [hv]
   clear hown hnx hv
   go_wp2
   go_ret2
   exact ⟨a, cap, rfl, ⟨hL, hlow.out⟩, RB⟩
end Go.Proofs.YtebjkmknhpgemaaGreat
