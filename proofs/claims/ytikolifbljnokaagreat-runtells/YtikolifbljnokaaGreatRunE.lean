/-
  run.Run: whatever picks there are that may be, the same comes as one after the other.
  Conditions: the arguments can be read.
-/
import Derived.Test.YtikolifbljnokaaGreatRunC
import Derived.OwnWalk
import Derived.Laws.OwnMore
import Derived.WalkKit
import Derived.WalkSpells
import Derived.WalkLawsBesides
import Derived.ProofKit
import Derived.Deep.RegionHeld
import Derived.Deep.RegionHeld3
import Derived.BigQuiet
import Derived.Deep.RegionLaw
import Derived.Deep.DeepCutAuto
import Derived.Maps.AppendAt
namespace Go.Proofs.YtikolifbljnokaaGreat
open Go.RowKit

theorem madeS0 : (madeCells (Value.agg #[.bool false, .slice none 0 0]).cells (0 * 2)).toList = flatR (List.replicate 0 r0) := by kernel_rfl
theorem madeS1 : (madeCells (Value.agg #[.bool false, .slice none 0 0]).cells (1 * 2)).toList = flatR (List.replicate 1 r0) := by kernel_rfl
theorem madeS2 : (madeCells (Value.agg #[.bool false, .slice none 0 0]).cells (2 * 2)).toList = flatR (List.replicate 2 r0) := by kernel_rfl
theorem madeS3 : (madeCells (Value.agg #[.bool false, .slice none 0 0]).cells (3 * 2)).toList = flatR (List.replicate 3 r0) := by kernel_rfl
theorem madeS4 : (madeCells (Value.agg #[.bool false, .slice none 0 0]).cells (4 * 2)).toList = flatR (List.replicate 4 r0) := by kernel_rfl
theorem madeS5 : (madeCells (Value.agg #[.bool false, .slice none 0 0]).cells (5 * 2)).toList = flatR (List.replicate 5 r0) := by kernel_rfl
theorem madeS6 : (madeCells (Value.agg #[.bool false, .slice none 0 0]).cells (6 * 2)).toList = flatR (List.replicate 6 r0) := by kernel_rfl
theorem madeS7 : (madeCells (Value.agg #[.bool false, .slice none 0 0]).cells (7 * 2)).toList = flatR (List.replicate 7 r0) := by kernel_rfl
theorem madeS8 : (madeCells (Value.agg #[.bool false, .slice none 0 0]).cells (8 * 2)).toList = flatR (List.replicate 8 r0) := by kernel_rfl
theorem made_res (n : Nat) (h : n ≤ 8) : (madeCells (Value.agg #[.bool false, .slice none 0 0]).cells (n * 2)).toList = flatR (List.replicate n r0) := by
  have e : n = 0 ∨ n = 1 ∨ n = 2 ∨ n = 3 ∨ n = 4 ∨ n = 5 ∨ n = 6 ∨ n = 7 ∨ n = 8 := by omega
  rcases e with rfl | rfl | rfl | rfl | rfl | rfl | rfl | rfl | rfl
  · exact madeS0
  · exact madeS1
  · exact madeS2
  · exact madeS3
  · exact madeS4
  · exact madeS5
  · exact madeS6
  · exact madeS7
  · exact madeS8
theorem txs_mem {w : World} {a : Option Addr} {l : List TxA} (h : IsTxs w a l) {x : TxA} (hx : x ∈ l) : IsX w x := by
  obtain ⟨i, hi, rfl⟩ := List.mem_iff_getElem.1 hx
  obtain ⟨_, _, _, _, _, _, _, hX⟩ := h i hi
  have e : l.getD i x0 = l[i] := by simp [List.getD, hi]
  rw [e] at hX
  exact hX
theorem lies_get {w : World} {g : Nat} {rl : List RsA} (h : Lies w ⟨g, 0, none⟩ (flatR rl)) (i : Nat) (hi : i < rl.length) : w.cell? ⟨g, i * 2, none⟩ = some (.bool (rl.getD i r0).d) ∧ w.cell? ⟨g, i * 2 + 1, none⟩ = some (.slice (rl.getD i r0).va (rl.getD i r0).vs.length (rl.getD i r0).vc) := by
  obtain ⟨f0, f1⟩ := flatR_at rl i hi
  have m0 := h _ _ f0
  have m1 := h _ _ f1
  rw [add_none] at m0 m1
  simp only [Nat.zero_add] at m0 m1
  exact ⟨m0, m1⟩

theorem newsX (w : World) (a b c : Value) (n : Nat) (hn : n = w.heap.size) : ∀ j u, [a, b, c][j]? = some u → (w.alloc (.cells #[a, b, c] 38)).cell? ((⟨n, 0, none⟩ : Addr).add j) = some u := by
  subst hn
  intro j u hj
  rw [add_none]
  match j, hj with
  | 0, hj => simp at hj; subst hj; simp
  | 1, hj => simp at hj; subst hj; simp
  | 2, hj => simp at hj; subst hj; simp
  | j + 3, hj => simp at hj
theorem oneX (a b c : Option Addr) (n1 m1 n2 m2 n3 m3 : Nat) : ∀ u ∈ [Value.slice a n1 m1, Value.slice b n2 m2, Value.slice c n3 m3], u.oneCell' = true := by
  intro u hu
  simp at hu
  rcases hu with rfl | rfl | rfl <;> rfl
def rEnd (s : List Int) (l : List TxA) (picks : List Int) : List Int := if ckE s l picks = 0 then serEnd s l else []
def rRes (s : List Int) (l : List TxA) (picks : List Int) : List (Bool × List Int) := if ckE s l picks = 0 then serRes s l else []

variable (sa : Option Addr) (sc : Nat) (s : List Int) (la : Option Addr) (lc : Nat) (l : List TxA) (pa : Option Addr) (pc : Nat) (picks : List Int)

set_option maxRecDepth 100000 in
set_option maxHeartbeats 8000000 in
theorem run_ok (w : World) (hs : IsInts w sa s) (hl : IsTxs w la l) (hp : IsInts w pa picks) (hE : ckE s l picks = 0) :
    Calls Tryz.prog 4 #[.slice sa s.length sc, .slice la l.length lc, .slice pa picks.length pc] w fun e w' => ∃ ea ec ra rc, e = .returned (.tuple #[.slice ea 8 ec, .slice ra l.length rc, .int .i64 0]) ∧ IsInts w' ea (serEnd s l) ∧ IsRes w' ra (serRes s l) ∧ Below w.heap.size w w' := by
  obtain ⟨i0, hi, hz0, hz1, hz2⟩ := info_parts Tryz.info38
  obtain ⟨i1, hi1, hy0, hy1, hy2⟩ := info_parts Tryz.info41
  obtain ⟨hpr, hpk, _⟩ := ckE_zero hE
  obtain ⟨h8, hC, _⟩ := prE_zero hpr
  have hl8 := chkL_small hC
  obtain ⟨hend, hres, hlen⟩ := ckE_same hE ((List.replicate l.length r0).map RsA.told) (by simp)
  have hchk := pX_chk hE
  have HS : Hid (IsInts w sa s) := hs
  have HL : Hid (IsTxs w la l) := hl
  have HPk : Hid (IsInts w pa picks) := hp
  have HPL : Hid (picks.length = l.length) := hlen
  have CK : Hid (Calls Tryz.prog 8 #[.slice sa s.length sc, .slice la l.length lc, .slice pa picks.length pc] w fun e w' => e = .returned (.int .i64 0) ∧ Below w.heap.size w w') := by
    have h := rcheck_any sa sc s la lc l pa pc picks w hl hp
    rw [hE] at h
    exact h
  have HIN : Hid (∀ k, k < picks.length → 0 ≤ picks.getD k 0 ∧ (picks.getD k 0).toNat < l.length) := fun k hk => pkE_in l picks (d0 l) hpk k hk
  have HTK : Hid (∀ k, k < picks.length → pX l (picks.take (k + 1)) = pX l (picks.take k) ++ [gX l (picks.getD k 0).toNat]) := fun k hk => pX_take l picks k hk
  have HXL : Hid (∀ k, k ≤ picks.length → (pX l (picks.take k)).length = k) := fun k hk => by
    show _ = _
    rw [pX_len, List.length_take]
    omega
  have HXM : Hid (∀ x ∈ pX l picks, x ∈ l) := fun x hx => by
    obtain ⟨i, hi', rfl⟩ := List.mem_map.1 hx
    obtain ⟨p, hp', rfl⟩ := List.mem_map.1 hi'
    obtain ⟨k, hk, rfl⟩ := List.mem_iff_getElem.1 hp'
    have := (pkE_in l picks (d0 l) hpk k hk).2
    rw [show picks.getD k 0 = picks[k] by simp [List.getD, hk]] at this
    unfold gX
    simp [List.getD, this]
  have CS : Hid (∀ (a : Option Addr) (c : Nat) (w : World), IsInts w sa s → IsTxs w a (pX l picks) → Calls Tryz.prog 11 #[.slice sa s.length sc, .slice a picks.length c] w fun e w' => ∃ ea ec xa xc rl, e = .returned (.tuple #[.slice ea 8 ec, .slice xa l.length xc, .int .i64 0]) ∧ Hid (IsInts w' ea (serEnd s l)) ∧ Hid (rl.length = l.length) ∧ Hid (0 < l.length → ∃ g, xa = some ⟨g, 0, none⟩ ∧ Lies w' ⟨g, 0, none⟩ (flatR rl)) ∧ Hid (∀ r ∈ rl, IsInts w' r.va r.vs) ∧ Hid ((putR (List.replicate l.length r0) (pN picks) rl).map RsA.told = serRes s l) ∧ Below w.heap.size w w') := fun a c w h1 h2 => by
    have hser : serE s (pX l picks) = 0 := by
      unfold serE lenE
      rw [if_pos h8, hchk]
      rfl
    have e1 : sEnd s (pX l picks) = serEnd s l := by
      rw [show sEnd s (pX l picks) = serEnd s (pX l picks) from if_pos hser, hend]
    have e2 : sRes s (pX l picks) = serRes s (pX l picks) := if_pos hser
    have hel : (serEnd s l).length = 8 := by rw [serEnd_len]; exact h8
    have hrl : (serRes s (pX l picks)).length = l.length := by rw [serRes_len, pX_len]; exact hlen
    have h := serial_any sa a sc c s (pX l picks) w h1 h2
    rw [pX_len, e1, e2, hser, hel, hrl] at h
    refine h.mono ?_
    rintro e w' ⟨ea, ec, xa, xc, rfl, ⟨q1, _, rl, q2, q3⟩, hb⟩
    have hrll : rl.length = l.length := by
      have := congrArg List.length q3
      rw [List.length_map, hrl] at this
      exact this
    refine ⟨ea, ec, xa, xc, rl, rfl, q1.ints (Nat.le_refl _), hrll, fun h0 => ?_, fun r hr => (q2.2 r hr).1.ints (Nat.le_refl _), ?_, hb⟩
    · have q2' := q2.1
      rw [hrl] at q2'
      rcases q2'.2 with ⟨hv, h00⟩ | ⟨g, cap, cur, hv, _⟩
      · omega
      · injection hv with hv1 hv2 hv3
        subst hv1
        exact ⟨g, rfl, lies_row q2'⟩
    · show _ = _
      rw [putR_told, q3]
      exact hres
  have HM2 : Hid ((madeCells (Value.agg #[.bool false, .slice none 0 0]).cells (l.length * 2)).toList = flatR (List.replicate l.length r0)) := made_res l.length hl8
  clear hs hl hp hE hpr hpk hC h8 hend hres hlen hchk
  go_enter Tryz.func4, Tryz.ntmps4
  go_wp2_with fail
  refine CK.out.mono ?_
  clear CK
  rintro e w1 ⟨rfl, b1⟩
  have B1 : Hid (Below w.heap.size w w1) := b1
  clear b1
  have hpl8 : picks.length ≤ 8 := by have := HPL.out; omega
  go_wp2
  go_loopw [10, 12, 28] (fun v _ i wr => ∃ k : Nat, k ≤ picks.length ∧ i = .int .i64 k ∧ wr.ownsRow w1.heap.size 38 3 v k (flatX (pX l (picks.take k))) ∧ Below w1.heap.size w1 wr) (fun _ _ i _ => picks.length - (intOf i).toNat)
  case atStart => exact ⟨0, Nat.zero_le _, rfl, World.ownsRow_nil _ _ _ _, Below.refl _ _⟩
  case round =>
    obtain ⟨k, hk, rfl, hown, hnx⟩ := hrel
    by_cases hlt : k < picks.length
    · obtain ⟨b, off, rfl, _, c0⟩ := HPk.out k hlt
      have e0 := ext_cell hnx (ext_cell B1.out c0)
      obtain ⟨z0, zl⟩ := HIN.out k hlt
      have HT := HTK.out k hlt
      have HT' : Hid (pX l (picks.take (k + 1)) = pX l (picks.take k) ++ [gX l (picks.getD k 0).toNat]) := HT
      clear HT c0
      generalize picks.getD k 0 = z at *
      obtain ⟨y, rfl⟩ := Int.eq_ofNat_of_zero_le z0
      have zl' : y < l.length := by simpa using zl
      obtain ⟨b2, off2, rfl, _, f0, f1, f2, _⟩ := HL.out y zl'
      have g0 := ext_cell hnx (ext_cell B1.out f0)
      have g1 := ext_cell hnx (ext_cell B1.out f1)
      have g2 := ext_cell hnx (ext_cell B1.out f2)
      have HT2 : Hid (flatX (pX l (picks.take (k + 1))) = flatX (pX l (picks.take k)) ++ [.slice (l.getD y x0).ra (l.getD y x0).rs.length (l.getD y x0).rc, .slice (l.getD y x0).ga (l.getD y x0).gs.length (l.getD y x0).gc, .slice (l.getD y x0).sa (l.getD y x0).ss.length (l.getD y x0).sc]) := by
        show _ = _
        rw [HT'.out, flatX_app]
        rfl
      clear f0 f1 f2 HT' zl z0
      generalize l.getD y x0 = x at *
      obtain ⟨ra, ga, sa', rc, gc, sc', rs, gs, ss⟩ := x
      simp only at g0 g1 g2 HT2
      have j1 : (0 : Int) ≤ (k : Int) := by omega
      have j2 : (k : Int) < (picks.length : Int) := by omega
      have j3 : (0 : Int) ≤ (y : Int) := by omega
      have j4 : (y : Int) < (l.length : Int) := by omega
      have hsz : w1.heap.size ≤ wr.heap.size := hnx.size
      go_wp2_with (first
        | (at_builtin; refine wpList_append_own _ rfl _ _ 23 rfl w1.heap.size 38 i0 (.agg #[.slice none 0 0, .slice none 0 0, .slice none 0 0]) 3 72 Tryz.underlying23 hi hz0 hz1 hz2 rfl (by decide) _ _ _ rfl (hown.alloc _) ⟨wr.heap.size, 0, none⟩ 1 1 [.slice ra rs.length rc, .slice ga gs.length gc, .slice sa' ss.length sc'] rfl rfl (newsX _ _ _ _ _ rfl) (oneX _ _ _ _ _ _ _ _ _) (by unfold maxLen; omega) (by omega) (by simp; omega) ?_; intro v' w2 hown' hgrow _)
        | go_in)
      have R : w2.ownsRow w1.heap.size 38 3 v' (k + 1) (flatX (pX l (picks.take (k + 1)))) := by rw [HT2.out]; exact hown'
      have RB := (hnx.alloc hsz _).grown hgrow (by simp; omega) (fun j hj => (hown.lt j hj).1)
      clear hown' hgrow hown hnx g0 g1 g2 e0
      go_wp2
      go_roundw
      case rel => exact ⟨k + 1, by omega, by go_num, R, RB⟩
      case measure => simp [intOf]; omega
    · have hkk : k = picks.length := by omega
      have ho2 : wr.ownsRow w1.heap.size 38 3 u10 (pX l picks).length (flatX (pX l picks)) := by
        have h := hown
        rw [hkk, List.take_of_length_le (Nat.le_refl _)] at h
        rw [pX_len]
        exact h
      have BWr : Hid (Below w.heap.size w wr) := grow_trans B1.out hnx
      obtain ⟨xa, xc, hv, hT⟩ := txs_of_owns ho2 (fun x hx => (txs_mem HL.out (HXM.out x hx)).below BWr.out)
      rw [pX_len] at hv
      subst hv
      have HT : Hid (IsTxs wr xa (pX l picks)) := hT
      clear hown hnx ho2 hT hkk B1
      go_wp2_with fail
      refine (CS.out xa xc _ (HS.out.below BWr.out) HT.out).mono ?_
      rintro e w4 ⟨ea, ec, ta, tc, rl, rfl, hEa, hrl, hLies, hIn, hTold, b4⟩
      have B4 : Hid (Below w.heap.size w w4) := grow_trans BWr.out b4
      clear b4 CS BWr HT
      go_upto_region 12 with (first
        | (at_make; refine wpList_make_full _ rfl _ _ 24 rfl w4.heap.size 41 i1 (.agg #[.bool false, .slice none 0 0]) 2 Tryz.underlying24 hi1 hy0 hy1 .i64 .i64 _ _ l.length rfl rfl rfl rfl (by rw [hy2]; omega) (by unfold maxLen; omega) (by simp) ?_; intro w5 hown hgrow)
        | go_in)
      rw [HM2.out] at hown
      have U5 := Below.grown (Below.refl w4.heap.size w4) hgrow (by omega) (fun j hj => by cases hj)
      have hm0 : Hid (w5.ownsRow w4.heap.size 41 2 (.slice (some ⟨w4.heap.size, 0, none⟩) l.length l.length) l.length (flatR (putR (List.replicate l.length r0) ((pN picks).take 0) (rl.take 0)))) := hown
      have HPS : Hid (∀ k, k < l.length → putR (List.replicate l.length r0) ((pN picks).take (k + 1)) (rl.take (k + 1)) = (putR (List.replicate l.length r0) ((pN picks).take k) (rl.take k)).set (picks.getD k 0).toNat (rl.getD k r0)) := fun k hk => by
        have hpk : k < (pN picks).length := by
          have := HPL.out
          simp [pN]
          omega
        have h := putR_step (pN picks) (List.replicate l.length r0) rl k hpk (by have := hrl.out; omega)
        rw [h]
        congr 1
        unfold pN
        have hk2 : k < picks.length := by have := HPL.out; omega
        simp [List.getD, hk2]
      have HPN : Hid (∀ k, (putR (List.replicate l.length r0) ((pN picks).take k) (rl.take k)).length = l.length) := fun k => by
        show _ = _
        rw [putR_len]
        simp
      have hw4 : w.heap.size ≤ w4.heap.size := B4.out.size
      clear hown hgrow HM2
      generalize hgg : w4.heap.size = g at *
      go_wp2
      go_loopw [17, 18, 52] (fun _ _ i wr => ∃ k : Nat, k ≤ l.length ∧ i = .int .i64 k ∧ Hid (wr.ownsRow g 41 2 (.slice (some ⟨g, 0, none⟩) l.length l.length) l.length (flatR (putR (List.replicate l.length r0) ((pN picks).take k) (rl.take k)))) ∧ Hid (Below g w4 wr)) (fun _ _ i _ => l.length - (intOf i).toNat)
      case atStart => exact ⟨0, Nat.zero_le _, rfl, hm0, U5⟩
      case round =>
        clear hm0 U5
        obtain ⟨k, hk, rfl, hown, hnx⟩ := hrel
        have hnx' : Below w4.heap.size w4 wr := by rw [hgg]; exact hnx.out
        by_cases hlt : k < l.length
        · obtain ⟨tg, rfl, hLi⟩ := hLies.out (by omega)
          obtain ⟨t0, t1⟩ := lies_get hLi k (by have := hrl.out; omega)
          obtain ⟨b, off, rfl, _, c0⟩ := HPk.out k (by have := HPL.out; omega)
          have e0 := ext_cell hnx' (ext_cell B4.out c0)
          have t2 := ext_cell hnx' t0
          have t3 := ext_cell hnx' t1
          obtain ⟨z0, zl⟩ := HIN.out k (by have := HPL.out; omega)
          have HT := HPS.out k hlt
          have hPn := HPN.out k
          generalize picks.getD k 0 = z at *
          obtain ⟨y, rfl⟩ := Int.eq_ofNat_of_zero_le z0
          have zl' : y < l.length := by simpa using zl
          have HT' : Hid (putR (List.replicate l.length r0) ((pN picks).take (k + 1)) (rl.take (k + 1)) = (putR (List.replicate l.length r0) ((pN picks).take k) (rl.take k)).set y (rl.getD k r0)) := HT
          clear HT c0 t0 t1 hLi zl z0
          generalize rl.getD k r0 = rr at *
          obtain ⟨va, vc, vd, vs⟩ := rr
          simp only at t2 t3
          have j1 : (0 : Int) ≤ (k : Int) := by omega
          have j2 : (k : Int) < (l.length : Int) := by omega
          have j2' : (k : Int) < (picks.length : Int) := by have := HPL.out; omega
          have j3 : (0 : Int) ≤ (y : Int) := by omega
          have j4 : (y : Int) < (l.length : Int) := by omega
          go_upto_region 15 with fail
          have BA : Below wr.heap.size wr (wr.alloc (.cells #[.bool vd, .slice va vs.length vc] 41)) := grow_alloc (Below.refl _ _) _
          have y0 : (wr.alloc (.cells #[.bool vd, .slice va vs.length vc] 41)).cell? ⟨wr.heap.size, 0, none⟩ = some (.bool vd) := by simp
          have y1 : (wr.alloc (.cells #[.bool vd, .slice va vs.length vc] 41)).cell? ⟨wr.heap.size, 1, none⟩ = some (.slice va vs.length vc) := by simp
          have e1 := ext_cell BA e0
          have hoA : (wr.alloc (.cells #[.bool vd, .slice va vs.length vc] 41)).ownsRow g 41 2 (.slice (some ⟨g, 0, none⟩) l.length l.length) l.length (flatR (putR (List.replicate l.length r0) ((pN picks).take k) (rl.take k))) := hown.out.alloc _
          have hYg : wr.heap.size ≠ g := by
            have := (hown.out.lt g (by simp [Value.ownBlock])).2
            omega
          have s0 := hoA.cells (g := g) rfl (y * 2)
          have s1 := hoA.cells (g := g) rfl (y * 2 + 1)
          obtain ⟨f0, f1⟩ := flatR_at (putR (List.replicate l.length r0) ((pN picks).take k) (rl.take k)) y (by rw [hPn]; exact zl')
          have s0' := s0 _ f0
          have s1' := s1 _ f1
          rw [add_none] at s0' s1'
          simp only [Nat.zero_add] at s0' s1'
          have z2 : (wr.alloc (.cells #[.bool vd, .slice va vs.length vc] 41)).frozen? ⟨g, y * 2, none⟩ = false := hoA.frozenAt _
          have z3 : (wr.alloc (.cells #[.bool vd, .slice va vs.length vc] 41)).frozen? ⟨g, y * 2 + 1, none⟩ = false := hoA.frozenAt _
          have R1 : Hid ((put2R (wr.alloc (.cells #[.bool vd, .slice va vs.length vc] 41)) g y ⟨va, vc, vd, vs⟩).ownsRow g 41 2 (.slice (some ⟨g, 0, none⟩) l.length l.length) l.length (flatR (putR (List.replicate l.length r0) ((pN picks).take (k + 1)) (rl.take (k + 1))))) := by
            rw [HT'.out]
            exact own_put2R hPn hoA y zl' _
          have R2 : Hid (Below g w4 (put2R (wr.alloc (.cells #[.bool vd, .slice va vs.length vc] 41)) g y ⟨va, vc, vd, vs⟩)) := by
            have h1 : Below w4.heap.size w4 (put2R (wr.alloc (.cells #[.bool vd, .slice va vs.length vc] 41)) g y ⟨va, vc, vd, vs⟩) := grow_set (grow_set (grow_trans hnx' BA) (p := ⟨g, y * 2, none⟩) (by rw [hgg]; exact Nat.le_refl _) _) (p := ⟨g, y * 2 + 1, none⟩) (by rw [hgg]; exact Nat.le_refl _) _
            rw [hgg] at h1
            exact h1
          simp only [put2R] at R1 R2
          clear BA e0 hoA hown hnx hnx' s0 s1 f0 f1 HT' t2 t3
          generalize (wr.alloc (.cells #[.bool vd, .slice va vs.length vc] 41)) = V at *
          generalize wr.heap.size = Y at *
          go_region
          all_goals (
            have R1' : Hid _ := owns_below R1.out (grow_drew (Below.refl _ _))
            have R2' : Hid _ := Below.drew R2.out
            clear R1 R2 y0 y1 e1 s0' s1' z2 z3
            go_wp2
            go_roundw
            case rel => exact ⟨k + 1, by omega, by go_num, R1', R2'⟩
            case measure => simp [intOf]; omega)
        · have hkk : k = l.length := by omega
          have BF : Hid (Below w.heap.size w wr) := grow_trans B4.out hnx'
          have hF := hown.out
          rw [hkk, List.take_of_length_le (by have := HPL.out; simp [pN]; omega), List.take_of_length_le (by have := hrl.out; omega)] at hF
          have hPl := HPN.out l.length
          rw [List.take_of_length_le (by have := HPL.out; simp [pN]; omega), List.take_of_length_le (by have := hrl.out; omega)] at hPl
          obtain ⟨fa, fc, hv, hR⟩ := res_of_owns hF (fun r hr => by
            rcases putR_mem _ _ _ _ hr with h | h
            · have e : r = r0 := List.eq_of_mem_replicate h
              rw [e]
              exact fun i hi' => absurd hi' (by simp [r0])
            · exact (hIn.out r h).below hnx')
          rw [hTold.out] at hR hv
          injection hv with hv1 hv2 hv3
          subst hv1
          have HR : Hid (IsRes wr (some ⟨g, 0, none⟩) (serRes s l)) := hR
          have HEa : Hid (IsInts wr ea (serEnd s l)) := hEa.out.below hnx'
          clear hown hnx hnx' hF hPl hR hv2 hv3 hkk
          go_wp2
          refine bodyPost_ret (v := .tuple #[.slice ea 8 ec, .slice (some ⟨g, 0, none⟩) l.length l.length, .int .i64 0]) (by simp [results, Tryz.results4, go_sem]) rfl ⟨ea, ec, _, _, rfl, HEa.out, HR.out, BF.out⟩
end Go.Proofs.YtikolifbljnokaaGreat
