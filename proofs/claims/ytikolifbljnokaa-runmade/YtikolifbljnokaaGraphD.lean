/-
  graph.Edges and the document's EdgesOf.
  Conditions: the transactions can be read.
-/
import Derived.Test.YtikolifbljnokaaGraphB
import Derived.Test.YtikolifbljnokaaGraphC
import Derived.Test.YtikolifbljnokaaPlaceB
import Derived.Maps.AppendAt
import Derived.WalkKit
import Derived.WalkSpells
import Derived.WalkLawsBesides
import Derived.Defers
import Derived.Recover
import Derived.ProofKit
import Derived.Deep.RegionHeld
import Derived.Deep.RegionHeld3
import Derived.BigQuiet
import Derived.Deep.RegionLaw
import Derived.Deep.DeepCutAuto
namespace Go.Proofs.Ytikolifbljnokaa
open Go.RowKit

/-- Edges from one to those below m; from those below n to all. -/
def edgesIn (l : List TxA) (i : Nat) : Nat → List (Nat × Nat)
  | 0 => []
  | m + 1 => edgesIn l i m ++ (if i < m ∧ clashX (gX l i) (gX l m) = true then [(i, m)] else [])
def edgesTo (l : List TxA) : Nat → List (Nat × Nat)
  | 0 => []
  | n + 1 => edgesTo l n ++ edgesIn l n l.length
def edgesL (l : List TxA) : List (Nat × Nat) := edgesTo l l.length
theorem edgesIn_low (l : List TxA) (i : Nat) : ∀ m, m ≤ i + 1 → edgesIn l i m = []
  | 0, _ => rfl
  | m + 1, h => by rw [edgesIn, edgesIn_low l i m (by omega), if_neg (by omega)]; rfl
theorem edgesIn_on {l : List TxA} {i m : Nat} (h : i < m) (hc : clashX (gX l i) (gX l m) = true) : edgesIn l i (m + 1) = edgesIn l i m ++ [(i, m)] := by rw [edgesIn, if_pos ⟨h, hc⟩]
theorem edgesIn_off {l : List TxA} {i m : Nat} (hc : clashX (gX l i) (gX l m) = false) : edgesIn l i (m + 1) = edgesIn l i m := by rw [edgesIn, if_neg (by rw [hc]; simp)]; simp
theorem edgesIn_len (l : List TxA) (i : Nat) : ∀ m, (edgesIn l i m).length ≤ m
  | 0 => Nat.le_refl _
  | m + 1 => by
    have := edgesIn_len l i m
    rw [edgesIn, List.length_append]
    split <;> simp <;> omega
theorem edgesTo_len (l : List TxA) : ∀ n, (edgesTo l n).length ≤ n * l.length
  | 0 => by simp [edgesTo]
  | n + 1 => by
    have h1 := edgesTo_len l n
    have h2 := edgesIn_len l n l.length
    rw [edgesTo, List.length_append, Nat.add_mul]
    omega

theorem chkL_at0 {l : List TxA} (h : chkL l = 0) (k : Nat) (hk : k < l.length) : chkX (l.getD k x0) = 0 := by
  have h8 := chkL_small h
  unfold chkL at h
  rw [if_neg (by omega)] at h
  exact map_zero chkX l x0 h k hk

def cellsE (L : List (Nat × Nat)) : List Value := L.flatMap fun p => [.int .i64 p.1, .int .i64 p.2]
theorem cellsE_append (l m : List (Nat × Nat)) : cellsE (l ++ m) = cellsE l ++ cellsE m := by simp [cellsE]
/-- A list of edges that can be read. -/
def IsEds (w : World) (a : Option Addr) (L : List (Nat × Nat)) : Prop :=
  ∀ i, i < L.length → ∃ b off, a = some ⟨b, off, none⟩ ∧ b < w.heap.size ∧ w.cell? ⟨b, off + i * 2, none⟩ = some (.int .i64 (L.getD i (0, 0)).1) ∧ w.cell? ⟨b, off + i * 2 + 1, none⟩ = some (.int .i64 (L.getD i (0, 0)).2)
theorem IsEds.below {w w' : World} {a : Option Addr} {l : List (Nat × Nat)} (h : IsEds w a l) (hb : Below w.heap.size w w') : IsEds w' a l := by
  intro i hi
  obtain ⟨b, off, ha, hlt, h0, h1⟩ := h i hi
  exact ⟨b, off, ha, Nat.lt_of_lt_of_le hlt hb.size, ext_cell hb h0, ext_cell hb h1⟩
theorem cellsE_get : ∀ (l : List (Nat × Nat)) (i : Nat), i < l.length → (cellsE l)[i * 2]? = some (.int .i64 (l.getD i (0, 0)).1) ∧ (cellsE l)[i * 2 + 1]? = some (.int .i64 (l.getD i (0, 0)).2)
  | [], i, h => by simp at h
  | p :: t, 0, _ => by simp [cellsE]
  | p :: t, i + 1, h => by
    have := cellsE_get t i (by simpa using h)
    have e : cellsE (p :: t) = Value.int .i64 p.1 :: Value.int .i64 p.2 :: cellsE t := by simp [cellsE]
    rw [e]
    have e1 : (i + 1) * 2 = i * 2 + 1 + 1 := by omega
    rw [e1]
    simpa using this
theorem eds_of_owns {w : World} {base : Nat} {v : Value} {n : Nat} {l : List (Nat × Nat)} (h : w.ownsRow base 40 2 v n (cellsE l)) (hn : l.length = n) : ∃ a cap, v = .slice a l.length cap ∧ IsEds w a l := by
  rcases h.2 with ⟨rfl, h0⟩ | ⟨g, cap, cur, rfl, hb, hg, hnc, hcm, hcs, htake⟩
  · refine ⟨none, 0, by rw [hn, h0], fun i hi => ?_⟩
    omega
  · refine ⟨some ⟨g, 0, none⟩, cap, by rw [hn], fun i hi => ⟨g, 0, rfl, (Array.getElem?_eq_some_iff.1 hg).1, ?_, ?_⟩⟩
    · rw [Nat.zero_add, h.cellAt (i * 2) (by omega)]
      exact (cellsE_get l i hi).1
    · rw [Nat.zero_add, h.cellAt (i * 2 + 1) (by omega)]
      exact (cellsE_get l i hi).2
theorem news_ed (w : World) (x y : Int) (s : Nat) (hs : s = w.heap.size) : ∀ j u, [Value.int .i64 x, Value.int .i64 y][j]? = some u → (w.alloc (.cells #[.int .i64 x, .int .i64 y] 40)).cell? ((⟨s, 0, none⟩ : Addr).add j) = some u := by
  subst hs
  intro j u hj
  match j, hj with
  | 0, hj => simp at hj; subst hj; simp [Addr.add]
  | 1, hj => simp at hj; subst hj; simp [Addr.add]
theorem one_ed (x y : Int) : ∀ u ∈ [Value.int .i64 x, Value.int .i64 y], u.oneCell' = true := by
  intro u hu
  simp at hu
  rcases hu with rfl | rfl <;> rfl
set_option maxRecDepth 100000 in
theorem Try.info40 : (Try.prog.info? 40).map (fun i => (i.zero, i.size, i.bytes)) = some (some (.agg #[.int .i64 0, .int .i64 0]), 2, 16) := by kernel_rfl

theorem own_ed {w : World} {C n m : Nat} {v : Value} {L : List (Nat × Nat)} (h : w.ownsRow C 40 2 v (L.length + 1) (cellsE L ++ [.int .i64 n, .int .i64 m])) : w.ownsRow C 40 2 v (L ++ [(n, m)]).length (cellsE (L ++ [(n, m)])) := by
  rw [cellsE_append, List.length_append]; exact h
theorem gotBool0 (v : Bool) (w : World) : Calls Try.prog 43 #[.bool v, .int .i64 0] w fun e' w' => e' = .returned (.bool v) ∧ Below w.heap.size w w' :=
  (gotBool_ok v 0 rfl w).mono fun _ _ ⟨h1, h2⟩ => ⟨h1, by rw [h2]; exact grow_alloc (Below.refl _ _) _⟩
theorem clash_ok (x y : TxA) (w : World) (hx : IsX w x) (hy : IsX w y) (cx : chkX x = 0) (cy : chkX y = 0) :
    Calls Try.prog 11 #[.agg #[.slice x.ra x.rs.length x.rc, .slice x.ga x.gs.length x.gc, .slice x.sa x.ss.length x.sc], .agg #[.slice y.ra y.rs.length y.rc, .slice y.ga y.gs.length y.gc, .slice y.sa y.ss.length y.sc]] w fun e w' => e = .returned (.tuple #[.bool (clashX x y), .int .i64 0]) ∧ Below w.heap.size w w' := by
  have e1 : clE x y = 0 := (if_pos cx).trans cy
  have e2 : clB x y = clashX x y := if_pos e1
  have h := clash_any x y w hx hy
  rw [e1, e2] at h
  exact h

variable (la : Option Addr) (lc : Nat) (l : List TxA)

set_option maxRecDepth 100000 in
set_option maxHeartbeats 1000000 in
theorem edges1_pan (p : Nat) (w : World) (p0 : w.cell? ⟨p, 0, none⟩ = some (.slice la l.length lc)) (hl : IsTxs w la l) (hE : ¬ chkL l = 0) :
    Calls Try.prog 40 #[.pointer (some ⟨p, 0, none⟩)] w fun e w' => e = .panicked [{ v := .iface 28 (.int .i64 (chkL l)), recovered := false }] ∧ Below w.heap.size w w' := by
  have hn : firstNZ [chkL l] = chkL l := by unfold firstNZ; rw [if_neg hE]
  have HL : Hid (IsTxs w la l) := hl
  have HE : Hid (¬ chkL l = 0) := hE
  clear hl hE
  go_enter Try.func40, Try.ntmps40
  go_wp2_with fail
  refine (orderCheck_any la lc l _ HL.out).mono ?_
  rintro e w1 ⟨rfl, hb1⟩
  clear p0
  go_wp2_with fail
  refine (leave_nz [chkL l] _ 1 _ (by simp) (by rw [hn]; exact HE.out) (errs1 _ _ _ rfl)).mono ?_
  rintro e w' ⟨rfl, rfl⟩
  rw [hn]
  exact ⟨rfl, rfl, grow_alloc hb1 _⟩

set_option maxRecDepth 100000 in
set_option maxHeartbeats 4000000 in
theorem edges1_ok (p : Nat) (w : World) (p0 : w.cell? ⟨p, 0, none⟩ = some (.slice la l.length lc)) (hl : IsTxs w la l) (hE : chkL l = 0) :
    Calls Try.prog 40 #[.pointer (some ⟨p, 0, none⟩)] w fun e w' => ∃ v, e = .returned v ∧ w'.ownsRow w.heap.size 40 2 v (edgesL l).length (cellsE (edgesL l)) ∧ Below w.heap.size w w' := by
  obtain ⟨i0, hi, hz0, hz1, hz2⟩ := info_parts Try.info40
  have hl8 := chkL_small hE
  have hn : firstNZ [chkL l] = 0 := by unfold firstNZ; rw [hE]; rfl
  have HL : Hid (IsTxs w la l) := hl
  have HE : Hid (chkL l = 0) := hE
  clear hl hE
  go_enter Try.func40, Try.ntmps40
  go_wp2_with fail
  refine (orderCheck_any la lc l _ HL.out).mono ?_
  rintro e w1 ⟨rfl, hb1⟩
  have p1 := ext_cell hb1 p0
  clear p0
  go_wp2_with fail
  refine (leave_zero [chkL l] _ 1 _ (by simp) hn (errs1 _ _ _ rfl)).mono ?_
  rintro e w2 ⟨rfl, hw2⟩
  have b2 : Below w1.heap.size w1 w2 := by rw [hw2]; exact grow_alloc (Below.refl _ _) _
  have p2 := ext_cell b2 p1
  have B2 : Hid (Below w.heap.size w w2) := grow_trans hb1 b2
  have HL2 : Hid (IsTxs w2 la l) := HL.out.below B2.out
  clear b2 hb1 p1 HL hw2
  go_wp2
  go_loopw [2, 3, 4, 11] (fun v _ _ i wr => ∃ n : Nat, n ≤ l.length ∧ i = .int .i64 n ∧ wr.ownsRow w2.heap.size 40 2 v (edgesTo l n).length (cellsE (edgesTo l n)) ∧ Below w2.heap.size w2 wr) (fun _ _ _ i _ => l.length - (intOf i).toNat)
  case atStart => exact ⟨0, Nat.zero_le _, rfl, World.ownsRow_nil _ _ _ _, Below.refl _ _⟩
  case round =>
    obtain ⟨n, hn', rfl, hown, hnx⟩ := hrel
    by_cases hlt : n < l.length
    · have p3 := ext_cell hnx p2
      have hw0 : IntKind.i64.wrap ((n : Int) + 1) = ((n + 1 : Nat) : Int) := by
        rw [IntWalk.i64_in] <;> omega
      go_wp2
      have ho0 : Hid (wr.ownsRow w2.heap.size 40 2 u2 (edgesTo l n ++ edgesIn l n (n + 1)).length (cellsE (edgesTo l n ++ edgesIn l n (n + 1)))) := by
        rw [edgesIn_low l n (n + 1) (Nat.le_refl _), List.append_nil]; exact hown
      have HB0 : Hid (Below w2.heap.size w2 wr) := hnx
      clear hown hnx p3
      go_loopw [2, 4] (fun v i wq => ∃ m : Nat, n + 1 ≤ m ∧ m ≤ l.length ∧ i = .int .i64 m ∧ Hid (wq.ownsRow w2.heap.size 40 2 v (edgesTo l n ++ edgesIn l n m).length (cellsE (edgesTo l n ++ edgesIn l n m))) ∧ Hid (Below w2.heap.size w2 wq)) (fun _ i _ => l.length - (intOf i).toNat)
      case atStart => exact ⟨n + 1, Nat.le_refl _, hlt, by simp, ho0, HB0⟩
      case round =>
        clear ho0 HB0
        obtain ⟨m, hm1, hm2, rfl, hown, hB⟩ := hrel
        have p3 := ext_cell hB.out p2
        by_cases hlt2 : m < l.length
        · obtain ⟨b, off, rfl, _, e0, e1, e2, hx⟩ := HL2.out n hlt
          obtain ⟨b', off', hbe, _, f0, f1, f2, hy⟩ := HL2.out m hlt2
          injection hbe with hbe
          injection hbe with q1 q2 _
          subst q1 q2
          have d0 := ext_cell hB.out e0
          have d1 := ext_cell hB.out e1
          have d2 := ext_cell hB.out e2
          have d3 := ext_cell hB.out f0
          have d4 := ext_cell hB.out f1
          have d5 := ext_cell hB.out f2
          have HX : Hid (IsX wr (l.getD n x0)) := hx.below hB.out
          have HY : Hid (IsX wr (l.getD m x0)) := hy.below hB.out
          have CX : Hid (chkX (l.getD n x0) = 0) := chkL_at0 HE.out n hlt
          have CY : Hid (chkX (l.getD m x0) = 0) := chkL_at0 HE.out m hlt2
          have C11 : Hid (∀ w', Below wr.heap.size wr w' → Calls Try.prog 11 #[.agg #[.slice (l.getD n x0).ra (l.getD n x0).rs.length (l.getD n x0).rc, .slice (l.getD n x0).ga (l.getD n x0).gs.length (l.getD n x0).gc, .slice (l.getD n x0).sa (l.getD n x0).ss.length (l.getD n x0).sc], .agg #[.slice (l.getD m x0).ra (l.getD m x0).rs.length (l.getD m x0).rc, .slice (l.getD m x0).ga (l.getD m x0).gs.length (l.getD m x0).gc, .slice (l.getD m x0).sa (l.getD m x0).ss.length (l.getD m x0).sc]] w' fun e w'' => e = .returned (.tuple #[.bool (clashX (gX l n) (gX l m)), .int .i64 0]) ∧ Below w'.heap.size w' w'') := fun w' hb => clash_ok _ _ w' (HX.out.below hb) (HY.out.below hb) CX.out CY.out
          have HON : Hid (clashX (gX l n) (gX l m) = true → edgesIn l n (m + 1) = edgesIn l n m ++ [(n, m)]) := fun h => edgesIn_on (by omega) h
          have HOFF : Hid (clashX (gX l n) (gX l m) = false → edgesIn l n (m + 1) = edgesIn l n m) := fun h => edgesIn_off h
          have hlen : (edgesTo l n ++ edgesIn l n m).length ≤ 100 := by
            have h1 := edgesTo_len l n
            have h2 := edgesIn_len l n m
            have h3 : n * l.length ≤ 8 * 8 := Nat.mul_le_mul (by omega) (by omega)
            rw [List.length_append]
            omega
          clear e0 e1 e2 f0 f1 f2 hx hy HX HY CX CY
          generalize clashX (gX l n) (gX l m) = c at *
          generalize l.getD n x0 = x at *
          generalize l.getD m x0 = y at *
          obtain ⟨ra, ga, sa, rc, gc, sc, rs, gs, ss⟩ := x
          obtain ⟨ra', ga', sa', rc', gc', sc', rs', gs', ss'⟩ := y
          simp only at d0 d1 d2 d3 d4 d5 C11
          have KS : Hid (∀ w', Below wr.heap.size wr w' → Below wr.heap.size wr w' ∧ w'.cell? ⟨p, 0, none⟩ = some (.slice (some ⟨b, off, none⟩) l.length lc) ∧ w'.cell? ⟨b, off + n * 3, none⟩ = some (.slice ra rs.length rc) ∧ w'.cell? ⟨b, off + n * 3 + 1, none⟩ = some (.slice ga gs.length gc) ∧ w'.cell? ⟨b, off + n * 3 + 2, none⟩ = some (.slice sa ss.length sc) ∧ w'.cell? ⟨b, off + m * 3, none⟩ = some (.slice ra' rs'.length rc') ∧ w'.cell? ⟨b, off + m * 3 + 1, none⟩ = some (.slice ga' gs'.length gc') ∧ w'.cell? ⟨b, off + m * 3 + 2, none⟩ = some (.slice sa' ss'.length sc')) := fun w' h => ⟨h, ext_cell h p3, ext_cell h d0, ext_cell h d1, ext_cell h d2, ext_cell h d3, ext_cell h d4, ext_cell h d5⟩
          have i1 : (0 : Int) ≤ (n : Int) := by omega
          have i2 : (n : Int) < (l.length : Int) := by omega
          have i3 : (0 : Int) ≤ (m : Int) := by omega
          have i4 : (m : Int) < (l.length : Int) := by omega
          go_upto_region 9 with fail
          go_region_held3 (fun w' => Below wr.heap.size wr w' ∧ w'.cell? ⟨p, 0, none⟩ = some (.slice (some ⟨b, off, none⟩) l.length lc) ∧ w'.cell? ⟨b, off + n * 3, none⟩ = some (.slice ra rs.length rc) ∧ w'.cell? ⟨b, off + n * 3 + 1, none⟩ = some (.slice ga gs.length gc) ∧ w'.cell? ⟨b, off + n * 3 + 2, none⟩ = some (.slice sa ss.length sc) ∧ w'.cell? ⟨b, off + m * 3, none⟩ = some (.slice ra' rs'.length rc') ∧ w'.cell? ⟨b, off + m * 3 + 1, none⟩ = some (.slice ga' gs'.length gc') ∧ w'.cell? ⟨b, off + m * 3 + 2, none⟩ = some (.slice sa' ss'.length sc')) ((refine KS.out _ ?_; go_split_ands; repeat (first | assumption | exact Below.refl _ _ | refine grow_drew ?_ | refine grow_alloc ?_ _ | refine grow_trans ?_ (by assumption))))
            (first
              | (go_at_call 11; refine (C11.out _ ?_).mono ?_; (go_split_ands; assumption); rintro e wa ⟨rfl, hba⟩)
              | (go_at_call 43; refine (gotBool0 c _).mono ?_; rintro e wb ⟨rfl, hbb⟩))
          all_goals (
            go_split_ands
            have BB : Below wr.heap.size wr wb := by assumption
            have ho1 := owns_below hown.out BB
            have HB1 : Hid (Below w2.heap.size w2 wb) := grow_trans hB.out BB
            have hsz : w2.heap.size ≤ wb.heap.size := HB1.out.size
            clear hown hB KS C11 hba hbb
            cases c with
            | true =>
              have HS : Hid (edgesIn l n (m + 1) = edgesIn l n m ++ [(n, m)]) := HON.out rfl
              clear HON HOFF
              go_wp2_with (first | (at_builtin; (refine wpList_append_own _ rfl _ _ 31 rfl w2.heap.size 40 i0 (.agg #[.int .i64 0, .int .i64 0]) 2 16 Try.underlying31 hi hz0 hz1 hz2 rfl (by decide) _ _ _ rfl (ho1.alloc _) _ 1 1 [.int .i64 n, .int .i64 m] rfl rfl (news_ed _ _ _ _ (by simp)) (one_ed _ _) (by unfold maxLen; omega) (by omega) (by simp; omega) ?_); intro v' w3 hown' hgrow _) | go_in)
              have R : Hid (w3.ownsRow w2.heap.size 40 2 v' (edgesTo l n ++ edgesIn l n (m + 1)).length (cellsE (edgesTo l n ++ edgesIn l n (m + 1)))) := by
                rw [HS.out, ← List.append_assoc]; exact own_ed hown'
              have RB : Hid (Below w2.heap.size w2 w3) := (HB1.out.alloc hsz _).grown hgrow (by simp; omega) (fun j hj => (ho1.lt j hj).1)
              clear hown' hgrow ho1
              go_wp2
              go_roundw
              case rel => exact ⟨m + 1, by omega, by omega, by go_num, R, RB⟩
              case measure => simp [intOf]; omega
            | false =>
              have R : Hid (wb.ownsRow w2.heap.size 40 2 u2 (edgesTo l n ++ edgesIn l n (m + 1)).length (cellsE (edgesTo l n ++ edgesIn l n (m + 1)))) := by rw [HOFF.out rfl]; exact ho1
              clear HON HOFF ho1
              go_wp2
              go_roundw
              case rel => exact ⟨m + 1, by omega, by omega, by go_num, R, HB1⟩
              case measure => simp [intOf]; omega)
        · have hmm : m = l.length := by omega
          have R : Hid (wr.ownsRow w2.heap.size 40 2 u2 (edgesTo l (n + 1)).length (cellsE (edgesTo l (n + 1)))) := by
            have h := hown.out
            rw [hmm] at h
            exact h
          clear hown
          go_wp2
          go_roundw
          case rel => exact ⟨n + 1, by omega, by go_num, R.out, hB.out⟩
          case measure => simp [intOf]; omega
    · have hnn : n = l.length := by omega
      have R : Hid (wr.ownsRow w.heap.size 40 2 u2 (edgesL l).length (cellsE (edgesL l))) := by
        have h := hown
        rw [hnn] at h
        exact own_low h B2.out.size
      have RB : Hid (Below w.heap.size w wr) := grow_trans B2.out hnx
      clear hown hnx
      go_wp2
      go_ret
      exact ⟨_, rfl, R.out, RB.out⟩
set_option maxRecDepth 100000 in
set_option maxHeartbeats 4000000 in
theorem edgesOf_own (w2 : World) (HL2 : Hid (IsTxs w2 la l)) (hl8 : l.length ≤ 8) :
    Calls Try.prog 16 #[.slice la l.length lc] w2 fun e w' => ∃ v, e = .returned v ∧ w'.ownsRow w2.heap.size 40 2 v (edgesL l).length (cellsE (edgesL l)) ∧ Below w2.heap.size w2 w' := by
  obtain ⟨i0, hi, hz0, hz1, hz2⟩ := info_parts Try.info40
  go_enter Try.func16, Try.ntmps16
  go_wp2
  go_loopw [3, 4, 5] (fun v i _ wr => ∃ n : Nat, n ≤ l.length ∧ i = .int .i64 n ∧ wr.ownsRow w2.heap.size 40 2 v (edgesTo l n).length (cellsE (edgesTo l n)) ∧ Below w2.heap.size w2 wr) (fun _ i _ _ => l.length - (intOf i).toNat)
  case atStart => exact ⟨0, Nat.zero_le _, rfl, World.ownsRow_nil _ _ _ _, Below.refl _ _⟩
  case round =>
    obtain ⟨n, hn', rfl, hown, hnx⟩ := hrel
    by_cases hlt : n < l.length
    · have hw0 : IntKind.i64.wrap ((n : Int) + 1) = ((n + 1 : Nat) : Int) := by
        rw [IntWalk.i64_in] <;> omega
      go_wp2
      have ho0 : Hid (wr.ownsRow w2.heap.size 40 2 u3 (edgesTo l n ++ edgesIn l n (n + 1)).length (cellsE (edgesTo l n ++ edgesIn l n (n + 1)))) := by
        rw [edgesIn_low l n (n + 1) (Nat.le_refl _), List.append_nil]; exact hown
      have HB0 : Hid (Below w2.heap.size w2 wr) := hnx
      clear hown hnx
      go_loopw [3, 5] (fun v i wq => ∃ m : Nat, n + 1 ≤ m ∧ m ≤ l.length ∧ i = .int .i64 m ∧ Hid (wq.ownsRow w2.heap.size 40 2 v (edgesTo l n ++ edgesIn l n m).length (cellsE (edgesTo l n ++ edgesIn l n m))) ∧ Hid (Below w2.heap.size w2 wq)) (fun _ i _ => l.length - (intOf i).toNat)
      case atStart => exact ⟨n + 1, Nat.le_refl _, hlt, by simp, ho0, HB0⟩
      case round =>
        clear ho0 HB0
        obtain ⟨m, hm1, hm2, rfl, hown, hB⟩ := hrel
        by_cases hlt2 : m < l.length
        · obtain ⟨b, off, rfl, _, e0, e1, e2, hx⟩ := HL2.out n hlt
          obtain ⟨b', off', hbe, _, f0, f1, f2, hy⟩ := HL2.out m hlt2
          injection hbe with hbe
          injection hbe with q1 q2 _
          subst q1 q2
          have d0 := ext_cell hB.out e0
          have d1 := ext_cell hB.out e1
          have d2 := ext_cell hB.out e2
          have d3 := ext_cell hB.out f0
          have d4 := ext_cell hB.out f1
          have d5 := ext_cell hB.out f2
          have HX : Hid (IsX wr (l.getD n x0)) := hx.below hB.out
          have HY : Hid (IsX wr (l.getD m x0)) := hy.below hB.out
          have C11 : Hid (∀ w', Below wr.heap.size wr w' → Calls Try.prog 19 #[.agg #[.slice (l.getD n x0).ra (l.getD n x0).rs.length (l.getD n x0).rc, .slice (l.getD n x0).ga (l.getD n x0).gs.length (l.getD n x0).gc, .slice (l.getD n x0).sa (l.getD n x0).ss.length (l.getD n x0).sc], .agg #[.slice (l.getD m x0).ra (l.getD m x0).rs.length (l.getD m x0).rc, .slice (l.getD m x0).ga (l.getD m x0).gs.length (l.getD m x0).gc, .slice (l.getD m x0).sa (l.getD m x0).ss.length (l.getD m x0).sc]] w' fun e w'' => e = .returned (.bool (clashX (gX l n) (gX l m))) ∧ Below w'.heap.size w' w'') := fun w' hb => clashes_any _ _ w' (HX.out.below hb) (HY.out.below hb)
          have HON : Hid (clashX (gX l n) (gX l m) = true → edgesIn l n (m + 1) = edgesIn l n m ++ [(n, m)]) := fun h => edgesIn_on (by omega) h
          have HOFF : Hid (clashX (gX l n) (gX l m) = false → edgesIn l n (m + 1) = edgesIn l n m) := fun h => edgesIn_off h
          have hlen : (edgesTo l n ++ edgesIn l n m).length ≤ 100 := by
            have h1 := edgesTo_len l n
            have h2 := edgesIn_len l n m
            have h3 : n * l.length ≤ 8 * 8 := Nat.mul_le_mul (by omega) (by omega)
            rw [List.length_append]
            omega
          clear e0 e1 e2 f0 f1 f2 hx hy HX HY
          generalize clashX (gX l n) (gX l m) = c at *
          generalize l.getD n x0 = x at *
          generalize l.getD m x0 = y at *
          obtain ⟨ra, ga, sa, rc, gc, sc, rs, gs, ss⟩ := x
          obtain ⟨ra', ga', sa', rc', gc', sc', rs', gs', ss'⟩ := y
          simp only at d0 d1 d2 d3 d4 d5 C11
          have KS : Hid (∀ w', Below wr.heap.size wr w' → Below wr.heap.size wr w' ∧ w'.cell? ⟨b, off + n * 3, none⟩ = some (.slice ra rs.length rc) ∧ w'.cell? ⟨b, off + n * 3 + 1, none⟩ = some (.slice ga gs.length gc) ∧ w'.cell? ⟨b, off + n * 3 + 2, none⟩ = some (.slice sa ss.length sc) ∧ w'.cell? ⟨b, off + m * 3, none⟩ = some (.slice ra' rs'.length rc') ∧ w'.cell? ⟨b, off + m * 3 + 1, none⟩ = some (.slice ga' gs'.length gc') ∧ w'.cell? ⟨b, off + m * 3 + 2, none⟩ = some (.slice sa' ss'.length sc')) := fun w' h => ⟨h, ext_cell h d0, ext_cell h d1, ext_cell h d2, ext_cell h d3, ext_cell h d4, ext_cell h d5⟩
          have i1 : (0 : Int) ≤ (n : Int) := by omega
          have i2 : (n : Int) < (l.length : Int) := by omega
          have i3 : (0 : Int) ≤ (m : Int) := by omega
          have i4 : (m : Int) < (l.length : Int) := by omega
          go_upto_region 8 with fail
          go_region_held3 (fun w' => Below wr.heap.size wr w' ∧ w'.cell? ⟨b, off + n * 3, none⟩ = some (.slice ra rs.length rc) ∧ w'.cell? ⟨b, off + n * 3 + 1, none⟩ = some (.slice ga gs.length gc) ∧ w'.cell? ⟨b, off + n * 3 + 2, none⟩ = some (.slice sa ss.length sc) ∧ w'.cell? ⟨b, off + m * 3, none⟩ = some (.slice ra' rs'.length rc') ∧ w'.cell? ⟨b, off + m * 3 + 1, none⟩ = some (.slice ga' gs'.length gc') ∧ w'.cell? ⟨b, off + m * 3 + 2, none⟩ = some (.slice sa' ss'.length sc')) ((refine KS.out _ ?_; go_split_ands; repeat (first | assumption | exact Below.refl _ _ | refine grow_drew ?_ | refine grow_alloc ?_ _ | refine grow_trans ?_ (by assumption))))
            (first
              | (go_at_call 19; refine (C11.out _ ?_).mono ?_; (go_split_ands; assumption); rintro e wa ⟨rfl, hba⟩))
          all_goals (
            go_split_ands
            have BB : Below wr.heap.size wr wa := by assumption
            have ho1 := owns_below hown.out BB
            have HB1 : Hid (Below w2.heap.size w2 wa) := grow_trans hB.out BB
            have hsz : w2.heap.size ≤ wa.heap.size := HB1.out.size
            clear hown hB KS C11 hba
            cases c with
            | true =>
              have HS : Hid (edgesIn l n (m + 1) = edgesIn l n m ++ [(n, m)]) := HON.out rfl
              clear HON HOFF
              go_wp2_with (first | (at_builtin; (refine wpList_append_own _ rfl _ _ 31 rfl w2.heap.size 40 i0 (.agg #[.int .i64 0, .int .i64 0]) 2 16 Try.underlying31 hi hz0 hz1 hz2 rfl (by decide) _ _ _ rfl (ho1.alloc _) _ 1 1 [.int .i64 n, .int .i64 m] rfl rfl (news_ed _ _ _ _ (by simp)) (one_ed _ _) (by unfold maxLen; omega) (by omega) (by simp; omega) ?_); intro v' w3 hown' hgrow _) | go_in)
              have R : Hid (w3.ownsRow w2.heap.size 40 2 v' (edgesTo l n ++ edgesIn l n (m + 1)).length (cellsE (edgesTo l n ++ edgesIn l n (m + 1)))) := by
                rw [HS.out, ← List.append_assoc]; exact own_ed hown'
              have RB : Hid (Below w2.heap.size w2 w3) := (HB1.out.alloc hsz _).grown hgrow (by simp; omega) (fun j hj => (ho1.lt j hj).1)
              clear hown' hgrow ho1
              go_wp2
              go_roundw
              case rel => exact ⟨m + 1, by omega, by omega, by go_num, R, RB⟩
              case measure => simp [intOf]; omega
            | false =>
              have R : Hid (wa.ownsRow w2.heap.size 40 2 u3 (edgesTo l n ++ edgesIn l n (m + 1)).length (cellsE (edgesTo l n ++ edgesIn l n (m + 1)))) := by rw [HOFF.out rfl]; exact ho1
              clear HON HOFF ho1
              go_wp2
              go_roundw
              case rel => exact ⟨m + 1, by omega, by omega, by go_num, R, HB1⟩
              case measure => simp [intOf]; omega)
        · have hmm : m = l.length := by omega
          have R : Hid (wr.ownsRow w2.heap.size 40 2 u3 (edgesTo l (n + 1)).length (cellsE (edgesTo l (n + 1)))) := by
            have h := hown.out
            rw [hmm] at h
            exact h
          clear hown
          go_wp2
          go_roundw
          case rel => exact ⟨n + 1, by omega, by go_num, R.out, hB.out⟩
          case measure => simp [intOf]; omega
    · have hnn : n = l.length := by omega
      have R : Hid (wr.ownsRow w2.heap.size 40 2 u3 (edgesL l).length (cellsE (edgesL l))) := by
        have h := hown
        rw [hnn] at h
        exact h
      have RB : Hid (Below w2.heap.size w2 wr) := hnx
      clear hown hnx
      go_wp2
      go_ret
      exact ⟨_, rfl, R.out, RB.out⟩

set_option maxRecDepth 100000 in
theorem edgesOf_any (w : World) (hl : IsTxs w la l) (hl8 : l.length ≤ 8) :
    Calls Try.prog 16 #[.slice la l.length lc] w fun e w' => ∃ a c, e = .returned (.slice a (edgesL l).length c) ∧ IsEds w' a (edgesL l) ∧ Below w.heap.size w w' :=
  (edgesOf_own la lc l w hl hl8).mono fun e w' ⟨v, he, ho, hb⟩ => by
    obtain ⟨a, c, rfl, h⟩ := eds_of_owns ho rfl
    exact ⟨a, c, he, h, hb⟩

/-- What Edges answers. -/
def edE (l : List TxA) : List (Nat × Nat) := if chkL l = 0 then edgesL l else []

set_option maxRecDepth 100000 in
set_option maxHeartbeats 1000000 in
theorem edges_by (n : Nat) (x : Int) (Q : Option Addr → World → Prop) (w : World)
    (h : Calls Try.prog 39 #[.func (.func 40) #[] #[.pointer (some ⟨w.heap.size, 0, none⟩)]] (w.alloc (.cells #[.slice la l.length lc] 27)) fun e w' => ∃ a c, e = .returned (.tuple #[.slice a n c, .int .i64 x]) ∧ Q a w' ∧ Below w.heap.size w w') :
    Calls Try.prog 12 #[.slice la l.length lc] w fun e w' => ∃ a c, e = .returned (.tuple #[.slice a n c, .int .i64 x]) ∧ Q a w' ∧ Below w.heap.size w w' := by
  have hmf : ∀ (fn : Fn) (first cap : Array Value) (w : World), (Instr.makeFunc fn first cap).run Try.prog w = .ok (.func fn first cap) w := fun _ _ _ _ => rfl
  have H : Hid (Calls Try.prog 39 #[.func (.func 40) #[] #[.pointer (some ⟨w.heap.size, 0, none⟩)]] (w.alloc (.cells #[.slice la l.length lc] 27)) fun e w' => ∃ a c, e = .returned (.tuple #[.slice a n c, .int .i64 x]) ∧ Q a w' ∧ Below w.heap.size w w') := h
  clear h
  go_enter Try.func12, Try.ntmps12
  go_wp2_with fail
  refine H.out.mono ?_
  clear H
  rintro e w1 ⟨a, c, rfl, hq, hb⟩
  have hB : Hid (Below w.heap.size w w1) := hb
  have hQ : Hid (Q a w1) := hq
  clear hb hq
  go_wp2
  go_ret2
  exact ⟨a, c, rfl, hQ.out, hB.out⟩

set_option maxRecDepth 100000 in
theorem edges_any (w : World) (hl : IsTxs w la l) :
    Calls Try.prog 12 #[.slice la l.length lc] w fun e w' => ∃ a c, e = .returned (.tuple #[.slice a (edE l).length c, .int .i64 (chkL l)]) ∧ IsEds w' a (edE l) ∧ Below w.heap.size w w' := by
  have g1 : Below w.heap.size w (w.alloc (.cells #[.slice la l.length lc] 27)) := grow_alloc (Below.refl _ _) _
  refine edges_by la lc l _ _ (fun a w' => IsEds w' a (edE l)) w ?_
  have p : ((w.alloc (.cells #[.slice la l.length lc] 27)).alloc (.cells #[.int .i64 0] 28)).cell? ⟨w.heap.size, 0, none⟩ = some (.slice la l.length lc) := by
    rw [World.cell?_alloc_lt _ _ _ (by simp)]; simp
  generalize w.alloc (.cells #[.slice la l.length lc] 27) = W at *
  have hl' : IsTxs (W.alloc (.cells #[.int .i64 0] 28)) la l := hl.below (grow_alloc g1 _)
  by_cases he : chkL l = 0
  · have e1 : edE l = edgesL l := if_pos he
    rw [e1, he]
    refine (caughtEd_ret 40 _ (fun _ => rfl) (fun v w' => w'.ownsRow (W.heap.size + 1) 40 2 v (edgesL l).length (cellsE (edgesL l))) W ?_ ((edges1_ok la lc l _ _ p hl' he).mono ?_)).mono ?_
    · intro v w' ho
      exact ho.kept (grown_one w' W.heap.size 0 _) (by
        cases hv : v.ownBlock with
        | none => exact .inl rfl
        | some j => exact .inr (fun e => by have := (ho.lt j hv).1; injection e with e; omega))
    · rintro e w' ⟨v, rfl, ho, hb⟩
      exact ⟨v, rfl, by simpa using ho, hb.mono (by simp)⟩
    · rintro e w' ⟨v, rfl, ho, hb⟩
      obtain ⟨a, c, rfl, h⟩ := eds_of_owns ho rfl
      exact ⟨a, c, rfl, h, grow_trans g1 hb⟩
  · have e1 : edE l = [] := if_neg he
    rw [e1]
    refine (caughtEd_pan 40 _ (fun _ => rfl) (chkL l) W ((edges1_pan la lc l _ _ p hl' he).mono ?_)).mono ?_
    · rintro e w' ⟨rfl, hb⟩
      exact ⟨rfl, hb.mono (by simp)⟩
    · rintro e w' ⟨rfl, hb⟩
      exact ⟨none, 0, rfl, fun i hi => absurd hi (by simp), grow_trans g1 hb⟩
end Go.Proofs.Ytikolifbljnokaa
