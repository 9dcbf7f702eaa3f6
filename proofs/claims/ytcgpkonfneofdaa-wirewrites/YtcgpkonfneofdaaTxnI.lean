/-
  What the sets of a transaction make of what was read, in order: a new list.
  Conditions: the transaction and what was read can be read; no set has an error; at most three sets.
-/
import Derived.Test.YtcgpkonfneofdaaTxnH
import Derived.WalkKit
import Derived.WalkSpells
import Derived.WalkLawsBesides
import Derived.Defers
import Derived.Recover
import Derived.ProofKit
import Derived.Deep.RegionHeld
import Derived.Deep.RegionHeld3
import Derived.BigQuiet
namespace Go.Proofs.Ytcgpkonfneofdaa
open Go.RowKit

set_option maxRecDepth 100000 in
theorem setRow_old {w : World} {base g cap n size : Nat} {e : TypeId} {cur new : Array Value} {xs : List Value} (hl : xs.length = n * size) (hbg : base ≤ g) (hg : w.heap[g]? = some (.cells cur e (0, 0))) (hnc : n ≤ cap) (hcm : cap ≤ maxLen) (hs : new.size = cap * size) (ht : new.toList.take (n * size) = xs) :
    (w.setRow g new).ownsRow base e size (.slice (some ⟨g, 0, none⟩) n cap) n xs :=
  ⟨hl, .inr ⟨g, cap, new, rfl, hbg, setRow_heap w g cur _ e _ hg, hnc, hcm, hs, ht⟩⟩

set_option maxRecDepth 100000 in
/-- An append, and the slice that was appended to still has what it had. -/
theorem run_append_keep {P : Program} (w : World) (base : Nat) (t ty e : TypeId) (i : TypeInfo) (z : Value) (bytes : Nat) (ht : P.underlying t = some (.slice e)) (hi : P.info? e = some i) (hz : i.zero = some z)
    (hby : i.bytes = bytes) (hzs : z.cells.size = i.size) (hsz : 0 < i.size)
    (v : Value) (n : Nat) (xs : List Value) (hown : w.ownsRow base e i.size v n xs)
    (a : Addr) (m c : Nat) (news : List Value) (hl : news.length = m * i.size) (hnews : ∀ j u, news[j]? = some u → w.cell? (a.add j) = some u) (h1 : ∀ u ∈ news, u.oneCell' = true)
    (h63 : n + m ≤ maxLen) (hbytes : (n + m) * bytes ≤ 140737488355328) (hbase : base ≤ w.heap.size) :
    ∃ v' w', (Builtin.append_ #[t, t] ty #[v, .slice (some a) m c]).run P w = .ok v' w' ∧ w'.ownsRow base e i.size v' (n + m) (xs ++ news) ∧ w.grownBy w' v.ownBlock ∧ w'.ownsRow base e i.size v n xs := by
  obtain ⟨v', w', hr, h2, h3, _⟩ := run_append_own (P := P) w base t ty e i z i.size bytes ht hi hz rfl hby hzs hsz v n xs hown a m c news hl hnews h1 h63 hbytes hbase
  refine ⟨v', w', hr, h2, h3, ?_⟩
  rcases hown.2 with ⟨rfl, rfl⟩ | ⟨g, cap, cur, rfl, hbg, hg, hnc, hcm, hcs, htake⟩
  · exact ⟨hown.1, .inl ⟨rfl, rfl⟩⟩
  · by_cases hroom : n + m ≤ cap
    · have hfit : n * i.size + news.length ≤ cur.size := by rw [hl, hcs, ← Nat.add_mul]; exact Nat.mul_le_mul_right _ hroom
      have hr' := run_append_room (P := P) w t ty e i ht hi g n cap cur hg a m c news hl hnews h1 hroom hfit
      rw [hr] at hr'
      injection hr' with _ hw
      subst hw
      refine setRow_old hown.1 hbg hg hnc hcm ?_ ?_
      · simp only [List.size_toArray, List.length_append, List.length_take, List.length_drop, Array.length_toList]
        omega
      · rw [htake, List.append_assoc, ← hown.1]
        exact List.take_left
    · have holds : ∀ j u, xs[j]? = some u → w.cell? ((⟨g, 0, none⟩ : Addr).add j) = some u := hown.cells (g := g) rfl
      have hsmall : n + m ≤ 9223372036854775807 := by simp only [maxLen] at h63; omega
      have hb' : (n + m) * i.bytes ≤ 140737488355328 := by rw [hby]; exact hbytes
      have hr' := run_append_grow (P := P) w t ty e i z ht hi hz ⟨g, 0, none⟩ n cap xs hown.1 holds a m c news hl hnews (by omega) (by omega) (growslice_fits (by omega) hb')
      rw [hr] at hr'
      injection hr' with _ hw
      subst hw
      exact ⟨hown.1, .inr ⟨g, cap, cur, rfl, hbg, (Below.heap_alloc w.drew _ g (Array.getElem?_eq_some_iff.1 hg).1).trans hg, hnc, hcm, hcs, htake⟩⟩

set_option maxRecDepth 100000 in
theorem step_append_keep {P : Program} {w : World} {ops : Array Oper} {o : Oper} {a : Act} {K : Act → World → Prop} {Q : Exit → Act → World → Prop} {E : Prop} (hgd : o.guard = none) (s x : Operand) (t : TypeId)
    (ho : o.op = .call { callee := .builtin .append, args := #[s, x], argTypes := #[t, t] })
    (base : Nat) (e : TypeId) (i : TypeInfo) (z : Value) (bytes : Nat) (ht : P.underlying t = some (.slice e)) (hi : P.info? e = some i) (hz : i.zero = some z)
    (hsize : i.size = 1) (hby : i.bytes = bytes) (hzs : z.cells.size = 1)
    (v : Value) (n : Nat) (xs : List Value) (hs : a.eval s = v) (hown : w.ownsRow base e 1 v n xs)
    (ad : Addr) (m c : Nat) (news : List Value) (hx : a.eval x = .slice (some ad) m c) (hl : news.length = m * 1) (hnews : ∀ j u, news[j]? = some u → w.cell? (ad.add j) = some u) (h1 : ∀ u ∈ news, u.oneCell' = true)
    (h63 : n + m ≤ maxLen) (hbytes : (n + m) * bytes ≤ 140737488355328) (hbase : base ≤ w.heap.size)
    (h : ∀ v' w', w'.ownsRow base e 1 v' (n + m) (xs ++ news) → w.grownBy w' v.ownBlock → w'.ownsRow base e 1 v n xs → K (a.put o.dst v') w') :
    if Region.wanted o (yielded ops a.tmps) = true then Oper.wp P o a w K Q else E := by
  have hw : Region.wanted o (yielded ops a.tmps) = true := by simp [Region.wanted, hgd]
  rw [if_pos hw]
  rw [← hsize] at hown hl hzs h
  obtain ⟨v', w', hr, h2, h3, h4⟩ := run_append_keep (P := P) w base t o.type e i z bytes ht hi hz hby hzs (by omega) v n xs hown ad m c news hl hnews h1 h63 hbytes hbase
  unfold Oper.wp execOp
  simp only [ho, resolve, invoke, builtin, Sem.run_bind, Sem.run_pure, Result.andThen_ok, List.map_toArray, List.map_cons, List.map_nil, hs, hx, hr]
  exact h v' w' h2 h3 h4

set_option maxRecDepth 100000 in
theorem owns_below {w w' : World} {base : Nat} {e : TypeId} {size : Nat} {v : Value} {n : Nat} {xs : List Value} (h : w.ownsRow base e size v n xs) (hb : Below w.heap.size w w') : w'.ownsRow base e size v n xs := by
  refine ⟨h.1, ?_⟩
  rcases h.2 with hn | ⟨g, cap, cur, rfl, hbg, hg, rest⟩
  · exact .inl hn
  · exact .inr ⟨g, cap, cur, rfl, hbg, (hb.block g (Array.getElem?_eq_some_iff.1 hg).1).trans hg, rest⟩

section
variable {B G k : Nat} {u : Value} {xs : List Value} {op ak an bk bn : Int} {W : World}
set_option maxRecDepth 100000 in
theorem sv_below {w1 w2 : World} (hs : w1.cell? ⟨G, 1, none⟩ = some (.int .i64 op) ∧ w1.cell? ⟨G, 2, none⟩ = some (.int .i64 ak) ∧ w1.cell? ⟨G, 3, none⟩ = some (.int .i64 an) ∧ w1.cell? ⟨G, 4, none⟩ = some (.int .i64 bk) ∧ w1.cell? ⟨G, 5, none⟩ = some (.int .i64 bn) ∧ Hid (Below B W w1) ∧ Hid (w1.ownsRow B 3 1 u k xs)) (hB : B ≤ W.heap.size) (hb : Below w1.heap.size w1 w2) : w2.cell? ⟨G, 1, none⟩ = some (.int .i64 op) ∧ w2.cell? ⟨G, 2, none⟩ = some (.int .i64 ak) ∧ w2.cell? ⟨G, 3, none⟩ = some (.int .i64 an) ∧ w2.cell? ⟨G, 4, none⟩ = some (.int .i64 bk) ∧ w2.cell? ⟨G, 5, none⟩ = some (.int .i64 bn) ∧ Hid (Below B W w2) ∧ Hid (w2.ownsRow B 3 1 u k xs) := by
  obtain ⟨c1, c2, c3, c4, c5, hx, ho⟩ := hs
  exact ⟨ext_cell hb c1, ext_cell hb c2, ext_cell hb c3, ext_cell hb c4, ext_cell hb c5, hx.out.trans (hb.mono (Nat.le_trans hB hx.out.size)), owns_below ho.out hb⟩
set_option maxRecDepth 100000 in
theorem sv_grown {w1 w2 : World} (hs : w1.cell? ⟨G, 1, none⟩ = some (.int .i64 op) ∧ w1.cell? ⟨G, 2, none⟩ = some (.int .i64 ak) ∧ w1.cell? ⟨G, 3, none⟩ = some (.int .i64 an) ∧ w1.cell? ⟨G, 4, none⟩ = some (.int .i64 bk) ∧ w1.cell? ⟨G, 5, none⟩ = some (.int .i64 bn) ∧ Hid (Below B W w1) ∧ Hid (w1.ownsRow B 3 1 u k xs)) (hB : B ≤ W.heap.size) (hg : w1.grownBy w2 u.ownBlock) (ho2 : w2.ownsRow B 3 1 u k xs) (hG : ∀ j, u.ownBlock = some j → B ≤ j ∧ j < G) : w2.cell? ⟨G, 1, none⟩ = some (.int .i64 op) ∧ w2.cell? ⟨G, 2, none⟩ = some (.int .i64 ak) ∧ w2.cell? ⟨G, 3, none⟩ = some (.int .i64 an) ∧ w2.cell? ⟨G, 4, none⟩ = some (.int .i64 bk) ∧ w2.cell? ⟨G, 5, none⟩ = some (.int .i64 bn) ∧ Hid (Below B W w2) ∧ Hid (w2.ownsRow B 3 1 u k xs) := by
  obtain ⟨c1, c2, c3, c4, c5, hx, ho⟩ := hs
  have far : ∀ j v, w1.cell? ⟨G, j, none⟩ = some v → w2.cell? ⟨G, j, none⟩ = some v := fun j v h =>
    (World.cell?_of_block (hg.block G (World.block_lt_of_cell? w1 ⟨G, j, none⟩ h) (fun e => by have := (hG G e.symm).2; omega))).trans h
  exact ⟨far _ _ c1, far _ _ c2, far _ _ c3, far _ _ c4, far _ _ c5, hx.out.grown hg (Nat.le_trans hB hx.out.size) (fun j hj => (hG j hj).1), ho2⟩
end

/-- What a set makes of what was read; what all make. -/
def sVal (zs : List Int) (s : St) : Int := reckV s.op (valV s.ak s.an zs) (valV s.bk s.bn zs)
def allS (zs : List Int) (ss : List St) : List Int := ss.map (sVal zs)

set_option maxRecDepth 100000 in
theorem take_vals (zs : List Int) (ss : List St) (k : Nat) (h : k < ss.length) : (allS zs ss).take (k + 1) = (allS zs ss).take k ++ [sVal zs (ss.getD k s0)] := by
  rw [List.take_succ_eq_append_getElem (by simpa [allS] using h)]
  simp [allS, List.getD, h]

variable (ra ga sa : Option Addr) (rc gc sc : Nat) (rs : List Int) (gs : List Gd) (ss : List St) (za : Option Addr) (zc : Nat) (zs : List Int)

set_option maxRecDepth 100000 in
set_option maxHeartbeats 4000000 in
theorem setValues_own (w : World) (ht : IsTx w ra ga sa rs gs ss) (hz : IsInts w za zs) (hzl0 : zs.length ≤ maxLen) (hlen : zs.length = rs.length) (hs0 : firstNZ (ss.map (sErr rs.length)) = 0) (h3 : ss.length ≤ 3) :
    Calls Try.prog 83 #[.agg #[.slice ra rs.length rc, .slice ga gs.length gc, .slice sa ss.length sc], .slice za zs.length zc] w fun e w' => ∃ v, e = .returned v ∧ w'.ownsRow (w.heap.size + 1) 3 1 v ss.length ((allS zs ss).map (Value.int .i64)) ∧ Below w.heap.size w w' := by
  have hzl : Hid (zs.length ≤ maxLen) := hzl0
  have HZ : Hid (IsInts w za zs) := hz
  have HG : Hid (firstNZ (ss.map (sErr rs.length)) = 0) := hs0
  have HL : Hid (zs.length = rs.length) := hlen
  obtain ⟨i0, hi, hz0, hz1, hz2⟩ := info_parts Try.info3
  have hal : Hid ((allS zs ss).length = ss.length) := by simp [allS, Hid]
  obtain ⟨_, _, hgs, _, _, _⟩ := ht
  obtain ⟨B, hB⟩ : ∃ B, B = w.heap.size + 1 := ⟨_, rfl⟩
  rw [← hB]
  clear hzl0 hz hs0 hlen
  go_enter Try.func83, Try.ntmps83
  go_wp2
  go_loopw [5, 7, 11] (fun v _ i wr => ∃ k : Nat, k ≤ ss.length ∧ i = .int .i64 k ∧ wr.ownsRow B 3 1 v k (((allS zs ss).take k).map (Value.int .i64)) ∧ Below B (w.alloc (.cells #[.slice ra rs.length rc, .slice ga gs.length gc, .slice sa ss.length sc] 38)) wr) (fun _ _ i _ => ss.length - (intOf i).toNat)
  case atStart => exact ⟨0, Nat.zero_le _, rfl, World.ownsRow_nil _ _ _ _, Below.refl _ _⟩
  case round =>
    obtain ⟨k, hk, rfl, hown, hnx⟩ := hrel
    have hsz : B ≤ wr.heap.size := by have := hnx.size; simp at this; omega
    have hnx' : Below w.heap.size w wr := (grow_alloc (Below.refl _ _) _).trans (hnx.mono (by omega))
    by_cases hlt : k < ss.length
    · obtain ⟨b, off, rfl, hb, c0, c1, c2, c3, c4, c5⟩ := hgs k hlt
      have up : ∀ j u, w.cell? ⟨b, j, none⟩ = some u → wr.cell? ⟨b, j, none⟩ = some u := fun j u h =>
        (hnx'.cell (p := ⟨b, j, none⟩) hb).trans h
      have d0 := up _ _ c0
      have d1 := up _ _ c1
      have d2 := up _ _ c2
      have d3 := up _ _ c3
      have d4 := up _ _ c4
      have d5 := up _ _ c5
      have HT : Hid ((allS zs ss).take (k + 1) = (allS zs ss).take k ++ [sVal zs (ss.getD k s0)]) := take_vals zs ss k hlt
      have hE := map_zero _ ss s0 HG.out k hlt
      clear c0 c1 c2 c3 c4 c5 up hgs
      generalize (ss.getD k s0) = s at *
      obtain ⟨key, op, ak, an, bk, bn⟩ := s
      simp only at d0 d1 d2 d3 d4 d5
      obtain ⟨xA, xB, xC⟩ := sErr_zero hE
      rw [← HL.out] at xB xC
      have hA : Hid (reckE op = 0) := xA
      have hBB : Hid (chkV ak an zs.length = 0) := xB
      have hC : Hid (chkV bk bn zs.length = 0) := xC
      clear hE xA xB xC
      go_wp2_with fail
      generalize hxs : ((allS zs ss).take k).map (Value.int .i64) = xs at *
      have HXS : Hid (((allS zs ss).take k).map (Value.int .i64) = xs) := hxs
      have hWr : Below wr.heap.size wr (wr.alloc (.cells #[.int .i64 key, .int .i64 op, .int .i64 ak, .int .i64 an, .int .i64 bk, .int .i64 bn] 47)) := grow_alloc (Below.refl _ _) _
      have hW : Hid (Below w.heap.size w (wr.alloc (.cells #[.int .i64 key, .int .i64 op, .int .i64 ak, .int .i64 an, .int .i64 bk, .int .i64 bn] 47))) := grow_trans hnx' hWr
      have y1 : (wr.alloc (.cells #[.int .i64 key, .int .i64 op, .int .i64 ak, .int .i64 an, .int .i64 bk, .int .i64 bn] 47)).cell? ⟨wr.heap.size, 1, none⟩ = some (.int .i64 op) := by simp
      have y2 : (wr.alloc (.cells #[.int .i64 key, .int .i64 op, .int .i64 ak, .int .i64 an, .int .i64 bk, .int .i64 bn] 47)).cell? ⟨wr.heap.size, 2, none⟩ = some (.int .i64 ak) := by simp
      have y3 : (wr.alloc (.cells #[.int .i64 key, .int .i64 op, .int .i64 ak, .int .i64 an, .int .i64 bk, .int .i64 bn] 47)).cell? ⟨wr.heap.size, 3, none⟩ = some (.int .i64 an) := by simp
      have y4 : (wr.alloc (.cells #[.int .i64 key, .int .i64 op, .int .i64 ak, .int .i64 an, .int .i64 bk, .int .i64 bn] 47)).cell? ⟨wr.heap.size, 4, none⟩ = some (.int .i64 bk) := by simp
      have y5 : (wr.alloc (.cells #[.int .i64 key, .int .i64 op, .int .i64 ak, .int .i64 an, .int .i64 bk, .int .i64 bn] 47)).cell? ⟨wr.heap.size, 5, none⟩ = some (.int .i64 bn) := by simp
      have RB : Hid (Below B (w.alloc _) (wr.alloc (.cells #[.int .i64 key, .int .i64 op, .int .i64 ak, .int .i64 an, .int .i64 bk, .int .i64 bn] 47))) := hnx.trans (hWr.mono hsz)
      have HO : Hid ((wr.alloc (.cells #[.int .i64 key, .int .i64 op, .int .i64 ak, .int .i64 an, .int .i64 bk, .int .i64 bn] 47)).ownsRow B 3 1 u5 k xs) := hown.alloc _
      have hGo : Hid (∀ j, u5.ownBlock = some j → B ≤ j ∧ j < wr.heap.size) := fun j hj => hown.lt j hj
      have hBW : B ≤ (wr.alloc (.cells #[.int .i64 key, .int .i64 op, .int .i64 ak, .int .i64 an, .int .i64 bk, .int .i64 bn] 47)).heap.size := by simp; omega
      generalize wr.alloc (.cells #[.int .i64 key, .int .i64 op, .int .i64 ak, .int .i64 an, .int .i64 bk, .int .i64 bn] 47) = W at *
      generalize wr.heap.size = G at *
      have HS0 : Hid (W.cell? ⟨G, 1, none⟩ = some (.int .i64 op) ∧ W.cell? ⟨G, 2, none⟩ = some (.int .i64 ak) ∧ W.cell? ⟨G, 3, none⟩ = some (.int .i64 an) ∧ W.cell? ⟨G, 4, none⟩ = some (.int .i64 bk) ∧ W.cell? ⟨G, 5, none⟩ = some (.int .i64 bn) ∧ Hid (Below B W W) ∧ Hid (W.ownsRow B 3 1 u5 k xs)) := ⟨y1, y2, y3, y4, y5, Below.refl _ _, HO⟩
      clear hWr d0 d1 d2 d3 d4 d5 hnx hown hxs HO y1 y2 y3 y4 y5
      have hupW : Hid (∀ w', Below B W w' → Below w.heap.size w w') := fun w' h => hW.out.trans (h.mono (by omega))
      go_region_held3 (fun w' => w'.cell? ⟨G, 1, none⟩ = some (.int .i64 op) ∧ w'.cell? ⟨G, 2, none⟩ = some (.int .i64 ak) ∧ w'.cell? ⟨G, 3, none⟩ = some (.int .i64 an) ∧ w'.cell? ⟨G, 4, none⟩ = some (.int .i64 bk) ∧ w'.cell? ⟨G, 5, none⟩ = some (.int .i64 bn) ∧ Hid (Below B W w') ∧ Hid (w'.ownsRow B 3 1 u5 k xs)) ((first | exact sv_below HS0.out hBW (grow_drew (Below.refl _ _)) | exact sv_below (by assumption) hBW (by assumption) | exact sv_below (by assumption) hBW (grow_alloc (Below.refl _ _) _) | exact sv_grown (by assumption) hBW (by assumption) (by assumption) hGo.out))
        (first
          | (go_at_call_of 105 (Value.agg #[.int .i64 ak, .int .i64 an]); refine (txnValue_ok ak an zs za zc _ hzl.out ?_ hBB.out).mono ?_; (refine HZ.out.below (hupW.out _ ?_); go_split_ands; (refine Hid.out ?_; assumption)); rintro e w' ⟨rfl, hbx⟩)
          | (go_at_call_of 105 (Value.agg #[.int .i64 bk, .int .i64 bn]); refine (txnValue_ok bk bn zs za zc _ hzl.out ?_ hC.out).mono ?_; (refine HZ.out.below (hupW.out _ ?_); go_split_ands; (refine Hid.out ?_; assumption)); rintro e w' ⟨rfl, hbx⟩)
          | (go_at_call 103; refine (reckon_any op (valV ak an zs) (valV bk bn zs) _).mono ?_; rintro e w' ⟨rfl, hbx⟩)
          | (go_at_call 106; refine (gotInt_ok _ _ hA.out _).mono ?_; rintro e w' ⟨rfl, rfl⟩)
          | (refine step_append_keep (by rfl) _ _ _ (by rfl) B 3 i0 (.int .i64 0) 8 Try.underlying22 hi hz0 hz1 hz2 rfl u5 k xs (by rfl) ?_ _ 1 1 [.int .i64 (reckV op (valV ak an zs) (valV bk bn zs))] (by rfl) (by rfl) (news_at _ _ _ (by simp)) (ints_oneCell .i64 [_]) (by unfold maxLen; omega) (by omega) ?_ ?_; (go_split_ands; refine Hid.out ?_; assumption); (go_split_ands; refine Nat.le_trans hBW (Below.size (B := B) (Hid.out ?_)); assumption); intro v' w1 hown' hgrow hkeep))
      have R : w1.ownsRow B 3 1 v' (k + 1) (((allS zs ss).take (k + 1)).map (Value.int .i64)) := by
        rw [HT.out, List.map_append, HXS.out]; exact hown'
      go_split_ands
      have RB2 : Below B W w1 := by
        refine Hid.out ?_
        assumption
      have RB3 := RB.out.trans RB2
      clear hown' hgrow hkeep HS0
      go_wp2
      go_roundw
      case rel => exact ⟨k + 1, by omega, by go_num, R, RB3⟩
      case measure => simp [intOf]; omega
    · have R : wr.ownsRow B 3 1 u5 ss.length ((allS zs ss).map (Value.int .i64)) := by
        have hkk : k = ss.length := by omega
        rw [hkk, List.take_of_length_le (by rw [hal.out]; exact Nat.le_refl _)] at hown
        exact hown
      clear hown hnx hgs
      go_wp2
      go_ret
      exact ⟨_, rfl, R, hnx'⟩

set_option maxRecDepth 100000 in
theorem setValues_ok (w : World) (ht : IsTx w ra ga sa rs gs ss) (hz : IsInts w za zs) (hzl0 : zs.length ≤ maxLen) (hlen : zs.length = rs.length) (hs0 : firstNZ (ss.map (sErr rs.length)) = 0) (h3 : ss.length ≤ 3) :
    Calls Try.prog 83 #[.agg #[.slice ra rs.length rc, .slice ga gs.length gc, .slice sa ss.length sc], .slice za zs.length zc] w fun e w' => ∃ a cap, e = .returned (.slice a (allS zs ss).length cap) ∧ IsInts w' a (allS zs ss) ∧ Below w.heap.size w w' :=
  (setValues_own ra ga sa rc gc sc rs gs ss za zc zs w ht hz hzl0 hlen hs0 h3).mono fun e w' ⟨v, he, ho, hb⟩ => by
    obtain ⟨a, cap, rfl, hz⟩ := ints_of_owns ho
    exact ⟨a, cap, he, hz, hb⟩
end Go.Proofs.Ytcgpkonfneofdaa
