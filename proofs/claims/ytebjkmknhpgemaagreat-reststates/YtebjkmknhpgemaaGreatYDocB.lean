/-
  
  Conditions: those that each theorem states.
-/
import Derived.Test.YtebjkmknhpgemaaGreatYDocA
import Derived.Test.YtebjkmknhpgemaaGreatYTxnH
import Derived.WalkKit
import Derived.WalkSpells
import Derived.WalkLawsBesides
import Derived.Defers
import Derived.Recover
import Derived.ProofKit
import Derived.Deep.RegionHeld
import Derived.Deep.RegionHeld3
import Derived.Deep.RegionLaw
import Derived.Deep.DeepCutAuto
import Derived.Deep.QuietTactic
import Derived.BigQuiet
import Derived.Maps.AppendAt
import Derived.Lib.SliceRun
import Derived.Deep.AppendLies
import Derived.Test.YtebjkmknhpgemaaGreatYHallH
import Derived.Test.YtebjkmknhpgemaaGreatYPlaceE
namespace Go.Proofs.YtebjkmknhpgemaaGreat
open Go.RowKit
def idxI (P : Int × Bool → Bool) (L : List (Int × Bool)) : Int := if L.any P = true then ((L.findIdx P : Nat) : Int) else -1
theorem idx_step (P : Int × Bool → Bool) (L : List (Int × Bool)) (k : Nat) (h : k < L.length) (hn : ∀ p ∈ L.take k, P p = false) : (P (L.getD k (0, false)) = true → idxI P L = k) ∧ (P (L.getD k (0, false)) = false → ∀ p ∈ L.take (k + 1), P p = false) := by
  have e : L.getD k (0, false) = L[k] := by simp [List.getD, h]
  rw [e]
  constructor
  · intro hp
    unfold idxI
    rw [if_pos (List.any_eq_true.2 ⟨L[k], List.getElem_mem h, hp⟩)]
    have : L.findIdx P = k := by
      rw [List.findIdx_eq h]
      refine ⟨hp, fun j hj => ?_⟩
      exact hn _ (List.mem_take_iff_getElem.2 ⟨j, by omega, rfl⟩)
    rw [this]
  · intro hp p hm
    rw [List.take_succ_eq_append_getElem h, List.mem_append, List.mem_singleton] at hm
    rcases hm with hm | rfl
    · exact hn p hm
    · exact hp
theorem idx_none (P : Int × Bool → Bool) (L : List (Int × Bool)) (hn : ∀ p ∈ L, P p = false) : idxI P L = -1 := by
  unfold idxI
  rw [if_neg]
  intro h
  obtain ⟨p, hp, h⟩ := List.any_eq_true.1 h
  rw [hn p hp] at h
  cases h
theorem idxI_ge (P : Int × Bool → Bool) (L : List (Int × Bool)) : decide (0 ≤ idxI P L) = L.any P := by
  unfold idxI
  cases h : L.any P with
  | true => simp
  | false => simp
set_option maxRecDepth 100000 in
set_option maxHeartbeats 1000000 in
theorem index_in (L : List (Int × Bool)) (a : Option Addr) (c : Nat) (F : FuncId) (cap : Array Value) (P : Int × Bool → Bool) (w : World) (hL : IsLks w a L) (hl : L.length ≤ 100)
    (hF : ∀ v w, Sem.run Tryz.prog (callFunc F (#[v] ++ cap)) w = .ok (.enter F (#[v] ++ cap)) w)
    (hC : ∀ z b, (z, b) ∈ L → ∀ w', Below w.heap.size w w' → Calls Tryz.prog F (#[.agg #[.int .i64 z, .bool b]] ++ cap) w' fun e w'' => e = .returned (.bool (P (z, b))) ∧ Below w'.heap.size w' w'') :
    Calls Tryz.prog 171 #[.slice a L.length c, .func (.func F) #[] cap] w fun e w' => e = .returned (.int .i64 (idxI P L)) ∧ Below w.heap.size w w' := by
  have HL : Hid (IsLks w a L) := hL
  have HF : Hid (∀ v w, Sem.run Tryz.prog (callFunc F (#[v] ++ cap)) w = .ok (.enter F (#[v] ++ cap)) w) := hF
  have HC : Hid (∀ z b, (z, b) ∈ L → ∀ w', Below w.heap.size w w' → Calls Tryz.prog F (#[.agg #[.int .i64 z, .bool b]] ++ cap) w' fun e w'' => e = .returned (.bool (P (z, b))) ∧ Below w'.heap.size w' w'') := hC
  clear hL hF hC
  go_enter Tryz.func171, Tryz.ntmps171
  go_wp2
  go_loopw [5, 8] (fun _ i wr => ∃ k : Nat, k ≤ L.length ∧ i = .int .i64 k ∧ Hid (∀ p ∈ L.take k, P p = false) ∧ Hid (Below w.heap.size w wr)) (fun _ i _ => L.length - (intOf i).toNat)
  case atStart => exact ⟨0, Nat.zero_le _, rfl, (fun p hp => by simp at hp), Below.refl _ _⟩
  case round =>
    obtain ⟨k, hk, rfl, hn, hB⟩ := hrel
    by_cases hlt : k < L.length
    · obtain ⟨b, off, rfl, _, c0, c1⟩ := HL.out k hlt
      have d0 := ext_cell hB.out c0
      have d1 := ext_cell hB.out c1
      have HS : Hid ((P (L.getD k (0, false)) = true → idxI P L = k) ∧ (P (L.getD k (0, false)) = false → ∀ p ∈ L.take (k + 1), P p = false)) := idx_step P L k hlt hn.out
      have HM : Hid (L.getD k (0, false) ∈ L) := by
        show _ ∈ _
        simp [List.getD, hlt]
      clear c0 c1 hn
      generalize L.getD k (0, false) = pr at *
      obtain ⟨z, t⟩ := pr
      simp only at d0 d1
      have j1 : (0 : Int) ≤ (k : Int) := by omega
      have j2 : (k : Int) < (L.length : Int) := by omega
      go_wp2_with fail
      rw [HF.out, Oper.upon_enter]
      refine (HC.out z t HM.out _ hB.out).mono ?_
      rintro e w1 ⟨rfl, hb1⟩
      have B1 : Hid (Below w.heap.size w w1) := grow_trans hB.out hb1
      clear hb1 hB d0 d1
      cases hp : P (z, t) with
      | true =>
        have HR : Hid (idxI P L = k) := HS.out.1 hp
        clear HS
        go_wp2
        go_ret
        exact ⟨by rw [HR.out]; rfl, B1.out⟩
      | false =>
        have HR : Hid (∀ p ∈ L.take (k + 1), P p = false) := HS.out.2 hp
        clear HS
        go_wp2
        go_roundw
        case rel => exact ⟨k + 1, by omega, by go_num, HR, B1⟩
        case measure => simp [intOf]; omega
    · have HR : Hid (idxI P L = -1) := idx_none P L (by
        have h := hn.out
        rw [List.take_of_length_le (by omega)] at h
        exact h)
      clear hn
      go_wp2
      go_ret
      exact ⟨by rw [HR.out]; rfl, hB.out⟩
set_option maxRecDepth 100000 in
set_option maxHeartbeats 1000000 in
theorem contains_in (L : List (Int × Bool)) (a : Option Addr) (c : Nat) (F : FuncId) (cap : Array Value) (P : Int × Bool → Bool) (w : World) (hL : IsLks w a L) (hl : L.length ≤ 100)
    (hF : ∀ v w, Sem.run Tryz.prog (callFunc F (#[v] ++ cap)) w = .ok (.enter F (#[v] ++ cap)) w)
    (hC : ∀ z b, (z, b) ∈ L → ∀ w', Below w.heap.size w w' → Calls Tryz.prog F (#[.agg #[.int .i64 z, .bool b]] ++ cap) w' fun e w'' => e = .returned (.bool (P (z, b))) ∧ Below w'.heap.size w' w'') :
    Calls Tryz.prog 160 #[.slice a L.length c, .func (.func F) #[] cap] w fun e w' => e = .returned (.bool (L.any P)) ∧ Below w.heap.size w w' := by
  have H : Hid (Calls Tryz.prog 171 #[.slice a L.length c, .func (.func F) #[] cap] w fun e w' => e = .returned (.int .i64 (idxI P L)) ∧ Below w.heap.size w w') := index_in L a c F cap P w hL hl hF hC
  have HG : Hid (decide (0 ≤ idxI P L) = L.any P) := idxI_ge P L
  clear hL hF hC
  go_enter Tryz.func160, Tryz.ntmps160
  go_wp2_with fail
  refine H.out.mono ?_
  clear H
  rintro e w1 ⟨rfl, hb⟩
  have B : Hid (Below w.heap.size w w1) := hb
  clear hb
  go_wp2
  go_ret
  exact ⟨by rw [← HG.out]; rfl, B.out⟩
theorem at_new (W : World) (cs : Array Value) (ty : TypeId) (b j : Nat) (v : Value) (hb : b = W.heap.size) (hj : cs[j]? = some v) : (W.alloc (.cells cs ty)).cell? ⟨b, j, none⟩ = some v := by
  subst hb
  simp [hj]
theorem shE_in (sh k : Nat) (h0 : 0 < sh) (h4 : sh ≤ 4) (hk : k < 8) : shardE sh [] k = 0 ∧ shardV sh [] k = ((k % sh : Nat) : Int) := by
  have h1 : shardE sh [] k = 0 := by
    have hp : planE sh [] = 0 := by
      unfold planE chkL
      rw [if_neg (by omega)]
      rfl
    unfold shardE
    rw [hp, if_neg (by omega)]
    rfl
  refine ⟨h1, ?_⟩
  unfold shardV
  rw [if_pos h1]
  omega
theorem lk_len (x : TxA) : (lkX x).length ≤ 8 := lkTo_len _ _ 8
variable {w : World} {h sh : Nat} {l : List TxA} {S : SA} {A : HA}
set_option maxRecDepth 100000 in
set_option maxHeartbeats 1000000 in
theorem lies_at (w : World) (h p sh : Nat) (x0 : w.cell? ⟨h, 0, none⟩ = some (.pointer (some ⟨p, 0, none⟩))) (x1 : w.cell? ⟨p, 0, none⟩ = some (.int .i64 sh)) (hs0 : 0 < sh) (hs4 : sh ≤ 4) {c k : Nat} (hc : c < 8) :
    Calls Tryz.prog 113 #[.pointer (some ⟨h, 0, none⟩), .int .i64 c, .int .i64 k] w fun e w' => e = .returned (.bool (c % sh == k)) ∧ Below w.heap.size w w' := by
  obtain ⟨e1, e2⟩ := shE_in sh c hs0 hs4 hc
  have CS : Hid (Calls Tryz.prog 140 #[.agg #[.int .i64 sh, .slice none 0 0], .int .i64 c] w fun e w' => e = .returned (.tuple #[.int .i64 ((c % sh : Nat) : Int), .int .i64 0]) ∧ Below w.heap.size w w') := by
    have hh := shard_any none 0 [] sh c w (fun i hi => by simp at hi)
    rw [e1, e2] at hh
    exact hh
  have HE : Hid ((((c % sh : Nat) : Int) == (k : Int)) = (c % sh == k)) := by
    show _ = _
    rw [Bool.eq_iff_iff, beq_iff_eq, beq_iff_eq]
    omega
  clear e1 e2
  generalize c % sh = r at *
  go_enter Tryz.func113, Tryz.ntmps113
  go_wp2_with fail
  refine CS.out.mono ?_
  clear CS
  rintro e w1 ⟨rfl, hb⟩
  have B1 : Hid (Below w.heap.size w w1) := hb
  clear hb x0 x1
  go_wp2_with fail
  refine (gotInt_ok _ 0 rfl _).mono ?_
  rintro e w2 ⟨rfl, hw2⟩
  have B2 : Hid (Below w.heap.size w w2) := by rw [hw2]; exact grow_alloc B1.out _
  clear hw2 B1
  go_wp2
  go_ret
  exact ⟨by rw [HE.out]; rfl, B2.out⟩
theorem lies_any (H : Hall w h sh l S A) {c k : Nat} (hc : c < 8) :
    Calls Tryz.prog 113 #[.pointer (some ⟨h, 0, none⟩), .int .i64 c, .int .i64 k] w fun e w' => e = .returned (.bool (c % sh == k)) ∧ Below w.heap.size w w' := lies_at w h A.p sh H.h0 H.p0 H.s0 H.s4 hc
set_option maxRecDepth 100000 in
theorem cl162 (z y : Int) (b t : Bool) (p : Nat) (w : World) (h0 : w.cell? ⟨p, 0, none⟩ = some (.int .i64 y)) (h1 : w.cell? ⟨p, 1, none⟩ = some (.bool t)) :
    Calls Tryz.prog 162 #[.agg #[.int .i64 z, .bool b], .pointer (some ⟨p, 0, none⟩)] w fun e w' => e = .returned (.bool (y == z && (t || b))) ∧ Below w.heap.size w w' := by
  have hU : Hid (Below w.heap.size w (w.alloc (.cells #[.int .i64 z, .bool b] 134))) := grow_alloc (Below.refl _ _) _
  have d0 := ext_cell hU.out h0
  have d1 := ext_cell hU.out h1
  have e0 : (w.alloc (.cells #[.int .i64 z, .bool b] 134)).cell? ⟨w.heap.size, 0, none⟩ = some (.int .i64 z) := by simp
  have e1 : (w.alloc (.cells #[.int .i64 z, .bool b] 134)).cell? ⟨w.heap.size, 1, none⟩ = some (.bool b) := by simp
  clear h0 h1
  go_enter Tryz.func162, Tryz.ntmps162
  cases hq : (y == z)
  · go_wp2
    go_ret
    exact ⟨rfl, hU.out⟩
  · cases t
    · go_wp2
      go_ret
      exact ⟨rfl, hU.out⟩
    · go_wp2
      go_ret
      exact ⟨rfl, hU.out⟩
end Go.Proofs.YtebjkmknhpgemaaGreat
namespace Go.Proofs.YtebjkmknhpgemaaGreat
open Go.RowKit
variable (la : Option Addr) (lc : Nat) (l : List TxA) (sa ra wa va : Option Addr) (sc rc tc vc : Nat) (S : SA)
set_option maxRecDepth 100000 in
set_option maxHeartbeats 2000000 in
/-- The document's allRead. -/
theorem docAllRead_any (sh n : Nat) (w : World) (hl : IsTxs w la l) (hs : Sta w sa ra wa va S) (hp : pnE sh l n = 0) (hF : Form sh l S) (hn : n < l.length) (_h8 : l.length ≤ 8) (h0 : 0 < sh) (h4 : sh ≤ 4) :
    Calls Tryz.prog 55 #[.agg #[.int .i64 (sh : Int), .slice la l.length lc], .agg #[.slice sa S.st.length sc, .slice ra S.rd.length rc, .slice wa S.wr.length tc, .slice va S.vs.length vc], .int .i64 n] w fun e w' => e = .returned (.bool (allRd sh l S n)) ∧ Below w.heap.size w w' := by
  obtain ⟨W, hWe⟩ : ∃ W : World, W = ((w.alloc (.cells #[.int .i64 (sh : Int), .slice la l.length lc] 24)).alloc (.cells #[.slice sa S.st.length sc, .slice ra S.rd.length rc, .slice wa S.wr.length tc, .slice va S.vs.length vc] 29)) := ⟨_, rfl⟩
  have hW : Hid (Below w.heap.size w W) := by subst hWe; exact grow_alloc (grow_alloc (Below.refl _ _) _) _
  have p0 : W.cell? ⟨w.heap.size, 0, none⟩ = some (.int .i64 (sh : Int)) := by subst hWe; exact ext_cell (grow_alloc (Below.refl _ _) _) (at_new w _ 24 _ 0 _ rfl rfl)
  have p1 : W.cell? ⟨w.heap.size, 1, none⟩ = some (.slice la l.length lc) := by subst hWe; exact ext_cell (grow_alloc (Below.refl _ _) _) (at_new w _ 24 _ 1 _ rfl rfl)
  have q1 : W.cell? ⟨w.heap.size + 1, 1, none⟩ = some (.slice ra S.rd.length rc) := by subst hWe; exact at_new _ _ 29 _ 1 _ (by simp) rfl
  have CP : Hid (Calls Tryz.prog 53 #[.agg #[.int .i64 sh, .slice la l.length lc], .int .i64 n] W fun e w' => ∃ a c, e = .returned (.slice a (marks sh (keysIn (locksAt l n))).length c) ∧ IsBools w' a (marks sh (keysIn (locksAt l n))) ∧ Below W.heap.size W w') := partOf_any la lc l sh n _ (hl.below hW.out) hp
  have HS : Hid (Sta W sa ra wa va S) := hs.below hW.out
  have HM : Hid (∀ k, (marks sh (keysIn (locksAt l n))).getD k false = ptB sh (gX l n) k) := fun _ => rfl
  have HL : Hid ((marks sh (keysIn (locksAt l n))).length = sh) := marks_len _ _
  have HF : Hid (Form sh l S) := hF
  have HA : Hid (allRd sh l S n = (List.range sh).all (fun k => !ptB sh (gX l n) k || at2 S.rd n k)) := rfl
  clear hl hs hF hp
  generalize allRd sh l S n = R at *
  have HWe : Hid (W = _) := hWe
  clear hWe
  go_enter Tryz.func55, Tryz.ntmps55
  go_upto_region 1 with fail
  rw [← HWe.out]
  clear HWe
  go_wp2_with fail
  refine CP.out.mono ?_
  rintro e w1 ⟨a, c, rfl, hbs, hb1⟩
  have B1 : Hid (Below w.heap.size w w1) := grow_trans hW.out hb1
  have HB : Hid (IsBools w1 a (marks sh (keysIn (locksAt l n)))) := hbs
  have x0 := ext_cell hb1 p0
  have y1 := ext_cell hb1 q1
  obtain ⟨b4, o4, b5, o5, c5, e4, _, _, z4, z5⟩ := (HS.out.below hb1).rd.rows HF.out.rd HF.out.rn h0 n hn
  have Z5 : Hid (∀ k, k < sh → w1.cell? ⟨b5, o5 + k, none⟩ = some (.bool (at2 S.rd n k))) := z5
  rw [e4, HF.out.rd] at y1
  clear CP hbs hb1 p0 p1 q1 z5 e4
  rw [HL.out]
  go_wp2
  go_loop [8] (fun i => ∃ k : Nat, k ≤ sh ∧ i = .int .i64 k ∧ Hid ((List.range k).all (fun k => !ptB sh (gX l n) k || at2 S.rd n k) = true)) (fun i => sh - (intOf i).toNat)
  case atStart => exact ⟨0, Nat.zero_le _, rfl, rfl⟩
  case round =>
    obtain ⟨k, hk, rfl, hall⟩ := hrel
    by_cases hlt : k < sh
    · obtain ⟨b1, o1, ea, _, d1⟩ := HB.out k (by rw [HL.out]; exact hlt)
      subst ea
      rw [HM.out k] at d1
      have d4 := Z5.out k hlt
      have hstep : Hid ((List.range (k + 1)).all (fun k => !ptB sh (gX l n) k || at2 S.rd n k) = (!ptB sh (gX l n) k || at2 S.rd n k)) := by
        show _ = _
        rw [all_to, hall.out, Bool.true_and]
      have hstop : Hid ((!ptB sh (gX l n) k || at2 S.rd n k) = false → R = false) := fun e => by rw [HA.out]; exact all_stop hlt e
      have i1 : (k : Int) < (sh : Int) := by omega
      generalize ptB sh (gX l n) k = P at *
      generalize at2 S.rd n k = Q at *
      clear hall
      cases P
      · go_wp2
        go_round
        case rel => exact ⟨k + 1, by omega, by go_num, by show _ = _; rw [hstep.out]; rfl⟩
        case measure => simp [intOf]; omega
      · cases Q
        · have HR : Hid (R = false) := hstop.out rfl
          clear hstop hstep
          go_wp2
          go_ret
          exact ⟨by rw [HR.out]; rfl, B1.out⟩
        · go_wp2
          go_round
          case rel => exact ⟨k + 1, by omega, by go_num, by show _ = _; rw [hstep.out]; rfl⟩
          case measure => simp [intOf]; omega
    · have hkk : k = sh := by omega
      subst hkk
      have HR : Hid (R = true) := by show _ = _; rw [HA.out]; exact hall.out
      have i1 : ¬ (k : Int) < (k : Int) := by omega
      go_wp2
      go_ret
      exact ⟨by rw [HR.out]; rfl, B1.out⟩
set_option maxRecDepth 100000 in
set_option maxHeartbeats 2000000 in
/-- The document's gone. -/
theorem docGone_any (sh n k : Nat) (w : World) (hl : IsTxs w la l) (hs : Sta w sa ra wa va S) (hp : pnE sh l n = 0) (hF : Form sh l S) (hn : n < l.length) (hk : k < sh) (h4 : sh ≤ 4) :
    Calls Tryz.prog 61 #[.agg #[.int .i64 (sh : Int), .slice la l.length lc], .agg #[.slice sa S.st.length sc, .slice ra S.rd.length rc, .slice wa S.wr.length tc, .slice va S.vs.length vc], .int .i64 n, .int .i64 k] w fun e w' => e = .returned (.bool (goneB sh l S n k)) ∧ Below w.heap.size w w' := by
  have h0 : 0 < sh := by omega
  obtain ⟨W, hWe⟩ : ∃ W : World, W = ((w.alloc (.cells #[.int .i64 (sh : Int), .slice la l.length lc] 24)).alloc (.cells #[.slice sa S.st.length sc, .slice ra S.rd.length rc, .slice wa S.wr.length tc, .slice va S.vs.length vc] 29)) := ⟨_, rfl⟩
  have hW : Hid (Below w.heap.size w W) := by subst hWe; exact grow_alloc (grow_alloc (Below.refl _ _) _) _
  have p0 : W.cell? ⟨w.heap.size, 0, none⟩ = some (.int .i64 (sh : Int)) := by subst hWe; exact ext_cell (grow_alloc (Below.refl _ _) _) (at_new w _ 24 _ 0 _ rfl rfl)
  have p1 : W.cell? ⟨w.heap.size, 1, none⟩ = some (.slice la l.length lc) := by subst hWe; exact ext_cell (grow_alloc (Below.refl _ _) _) (at_new w _ 24 _ 1 _ rfl rfl)
  have q1 : W.cell? ⟨w.heap.size + 1, 1, none⟩ = some (.slice ra S.rd.length rc) := by subst hWe; exact at_new _ _ 29 _ 1 _ (by simp) rfl
  have q2 : W.cell? ⟨w.heap.size + 1, 2, none⟩ = some (.slice wa S.wr.length tc) := by subst hWe; exact at_new _ _ 29 _ 2 _ (by simp) rfl
  have CP : Hid (Calls Tryz.prog 53 #[.agg #[.int .i64 sh, .slice la l.length lc], .int .i64 n] W fun e w' => ∃ a c, e = .returned (.slice a (marks sh (keysIn (locksAt l n))).length c) ∧ IsBools w' a (marks sh (keysIn (locksAt l n))) ∧ Below W.heap.size W w') := partOf_any la lc l sh n _ (hl.below hW.out) hp
  have CA : Hid (∀ w1, Below W.heap.size W w1 → Calls Tryz.prog 54 #[.agg #[.int .i64 sh, .slice la l.length lc], .int .i64 n] w1 fun e w' => ∃ a c, e = .returned (.slice a (marks sh (setsIn (locksAt l n))).length c) ∧ IsBools w' a (marks sh (setsIn (locksAt l n))) ∧ Below w1.heap.size w1 w') := fun w1 hb => activeOf_any la lc l sh n _ ((hl.below hW.out).below hb) hp
  have HS : Hid (Sta W sa ra wa va S) := hs.below hW.out
  have HM : Hid ((marks sh (keysIn (locksAt l n))).getD k false = ptB sh (gX l n) k) := rfl
  have HM2 : Hid ((marks sh (setsIn (locksAt l n))).getD k false = acB sh (gX l n) k) := rfl
  have HL : Hid ((marks sh (keysIn (locksAt l n))).length = sh) := marks_len _ _
  have HL2 : Hid ((marks sh (setsIn (locksAt l n))).length = sh) := marks_len _ _
  have HF : Hid (Form sh l S) := hF
  have HR : Hid (goneB sh l S n k = if ptB sh (gX l n) k = true then (if acB sh (gX l n) k = true then at2 S.wr n k else at2 S.rd n k) else true) := by
    show _ = _
    unfold goneB
    cases ptB sh (gX l n) k <;> cases acB sh (gX l n) k <;> rfl
  clear hl hs hF hp
  generalize goneB sh l S n k = R at *
  have HWe : Hid (W = _) := hWe
  clear hWe
  go_enter Tryz.func61, Tryz.ntmps61
  go_upto_region 1 with fail
  rw [← HWe.out]
  clear HWe
  go_wp2_with fail
  refine CP.out.mono ?_
  rintro e w1 ⟨a, c, rfl, hbs, hb1⟩
  have B1 : Hid (Below W.heap.size W w1) := hb1
  obtain ⟨b1, o1, ea, _, d1⟩ := hbs k (by rw [HL.out]; exact hk)
  subst ea
  rw [HM.out] at d1
  rw [HL.out]
  have x0 := ext_cell hb1 p0
  have x1 := ext_cell hb1 p1
  clear CP hbs hb1
  generalize ptB sh (gX l n) k = P at *
  cases P
  · have HR' : Hid (R = true) := by show _ = _; rw [HR.out]; rfl
    have BF : Hid (Below w.heap.size w w1) := grow_trans hW.out B1.out
    clear HR
    go_wp2
    go_ret
    exact ⟨by rw [HR'.out]; rfl, BF.out⟩
  · go_wp2_with fail
    refine (CA.out _ B1.out).mono ?_
    rintro e w2 ⟨a, c, rfl, hbs, hb2⟩
    have B2 : Hid (Below W.heap.size W w2) := grow_trans B1.out hb2
    obtain ⟨b3, o3, ea, _, d3⟩ := hbs k (by rw [HL2.out]; exact hk)
    subst ea
    rw [HM2.out] at d3
    rw [HL2.out]
    have y1 := ext_cell B2.out q1
    have y2 := ext_cell B2.out q2
    obtain ⟨b4, o4, b5, o5, c5, e4, _, _, z4, z5⟩ := (HS.out.below B2.out).rd.rows HF.out.rd HF.out.rn h0 n hn
    obtain ⟨b6, o6, b7, o7, c7, e6, _, _, z6, z7⟩ := (HS.out.below B2.out).wr.rows HF.out.wr HF.out.wn h0 n hn
    have z5 := z5 k hk
    have z7 := z7 k hk
    rw [e4, HF.out.rd] at y1
    rw [e6, HF.out.wr] at y2
    have BF : Hid (Below w.heap.size w w2) := grow_trans hW.out B2.out
    clear CA hbs hb2 e4 e6 d1 x0 x1
    generalize acB sh (gX l n) k = Q at *
    cases Q
    · have HR' : Hid (R = at2 S.rd n k) := by show _ = _; rw [HR.out]; rfl
      clear HR
      go_wp2
      go_ret
      exact ⟨by rw [HR'.out]; rfl, BF.out⟩
    · have HR' : Hid (R = at2 S.wr n k) := by show _ = _; rw [HR.out]; rfl
      clear HR
      go_wp2
      go_ret
      exact ⟨by rw [HR'.out]; rfl, BF.out⟩
end Go.Proofs.YtebjkmknhpgemaaGreat
