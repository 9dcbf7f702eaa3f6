/-
  Two lists of transactions that say the same: the document's own SameTxns.
  Conditions: both can be read, and are not too long.
-/
import Derived.Test.YtcgpkonfneofdaaSeqB
import Derived.WalkKit
import Derived.WalkSpells
import Derived.WalkLawsBesides
import Derived.ProofKit
import Derived.Deep.RegionHeld
import Derived.Deep.RegionHeld3
import Derived.Deep.RegionLaw
import Derived.Deep.DeepCutAuto
import Derived.BigQuiet
namespace Go.Proofs.Ytcgpkonfneofdaa
open Go.RowKit

theorem core_at {l m : List TxA} (h : l.map TxA.core = m.map TxA.core) (k : Nat) : (l.getD k x0).core = (m.getD k x0).core := by
  have h1 : (l.map TxA.core)[k]? = (m.map TxA.core)[k]? := by rw [h]
  simp only [List.getElem?_map] at h1
  rw [List.getD_eq_getElem?_getD, List.getD_eq_getElem?_getD]
  cases e1 : l[k]? <;> cases e2 : m[k]? <;> simp_all

set_option maxRecDepth 100000 in
set_option maxHeartbeats 2000000 in
theorem sameTxns_eq (l m : List TxA) (a a' : Option Addr) (c c' : Nat) (w : World) (hc : l.map TxA.core = m.map TxA.core) (hll : l.length ≤ 1000) (hsm : ∀ x ∈ l, x.rs.length ≤ 100 ∧ x.gs.length ≤ 100 ∧ x.ss.length ≤ 100) (h1 : IsTxs w a l) (h2 : IsTxs w a' m) :
    Calls Try.prog 22 #[.slice a l.length c, .slice a' m.length c'] w fun e w' => e = .returned (.bool true) ∧ Below w.heap.size w w' := by
  have hlen : m.length = l.length := by have := congrArg List.length hc; simpa using this.symm
  have HC : Hid (∀ k, (l.getD k x0).core = (m.getD k x0).core) := core_at hc
  have HS : Hid (∀ x ∈ l, x.rs.length ≤ 100 ∧ x.gs.length ≤ 100 ∧ x.ss.length ≤ 100) := hsm
  have H1 : Hid (IsTxs w a l) := h1
  have H2 : Hid (IsTxs w a' m) := h2
  have HM : Hid (m.length = l.length) := hlen
  rw [hlen]
  clear hc hsm h1 h2 hlen
  have hne : ((l.length : Int) != (l.length : Int)) = false := by simp
  go_enter Try.func22, Try.ntmps22
  go_wp2
  go_loopw [5, 6, 7, 8, 9] (fun i _ _ _ _ wr => ∃ k : Nat, k ≤ l.length ∧ i = .int .i64 k ∧ Hid (Below w.heap.size w wr)) (fun i _ _ _ _ _ => l.length - (intOf i).toNat)
  case atStart => exact ⟨0, Nat.zero_le _, rfl, Below.refl _ _⟩
  case round =>
    obtain ⟨k, hk, rfl, hnx⟩ := hrel
    by_cases hlt : k < l.length
    · obtain ⟨b, off, rfl, _, c0, c1, c2, hx⟩ := H1.out k hlt
      obtain ⟨b', off', rfl, _, e0, e1, e2, hy⟩ := H2.out k (by rw [HM.out]; exact hlt)
      obtain ⟨hs1, hs2, hs3⟩ := HS.out (l.getD k x0) (by simp [List.getD, hlt])
      have hcc := HC.out k
      have d0 := ext_cell hnx.out c0
      have d1 := ext_cell hnx.out c1
      have d2 := ext_cell hnx.out c2
      have f0 := ext_cell hnx.out e0
      have f1 := ext_cell hnx.out e1
      have f2 := ext_cell hnx.out e2
      have HX : Hid (IsX wr (l.getD k x0)) := hx.below hnx.out
      have HY : Hid (IsX wr (m.getD k x0)) := hy.below hnx.out
      clear c0 c1 c2 e0 e1 e2 hx hy
      generalize l.getD k x0 = x at *
      generalize m.getD k x0 = y at *
      obtain ⟨ra, ga, sa, rc, gc, sc, rs, gs, ss⟩ := x
      obtain ⟨ra', ga', sa', rc', gc', sc', rs', gs', ss'⟩ := y
      simp only [TxA.core, Prod.mk.injEq] at hcc
      obtain ⟨rfl, rfl, rfl⟩ := hcc
      simp only at d0 d1 d2 f0 f1 f2 hs1 hs2 hs3
      have i1 : (0 : Int) ≤ (k : Int) := by omega
      have i2 : (k : Int) < (l.length : Int) := by omega
      have hbl := World.block_lt_of_cell? wr _ d0
      have hbl' := World.block_lt_of_cell? wr _ f0
      simp only at hbl hbl'
      have n0 : b ≠ wr.heap.size := by omega
      have n1 : b ≠ wr.heap.size + 1 := by omega
      have n2 : b' ≠ wr.heap.size := by omega
      have n3 : b' ≠ wr.heap.size + 1 := by omega
      go_upto_region 6 with fail
      go_cut [6, 7] (fun p q wx => ∃ X Y, p = .pointer (some ⟨X, 0, none⟩) ∧ q = .pointer (some ⟨Y, 0, none⟩) ∧ wx.cell? ⟨X, 0, none⟩ = some (.slice ra rs.length rc) ∧ wx.cell? ⟨X, 1, none⟩ = some (.slice ga gs.length gc) ∧ wx.cell? ⟨X, 2, none⟩ = some (.slice sa ss.length sc) ∧ wx.cell? ⟨Y, 0, none⟩ = some (.slice ra' rs.length rc') ∧ wx.cell? ⟨Y, 1, none⟩ = some (.slice ga' gs.length gc') ∧ wx.cell? ⟨Y, 2, none⟩ = some (.slice sa' ss.length sc') ∧ Below wr.heap.size wr wx)
      case first =>
        go_region
        all_goals (go_wp2_with fail; go_meet)
        · exact ⟨_, _, rfl, rfl, by first | (simp; done) | (show ((wr.alloc _).alloc _).cell? _ = _; rw [World.cell?_alloc_lt _ _ _ (by simp)]; simp), by first | (simp; done) | (show ((wr.alloc _).alloc _).cell? _ = _; rw [World.cell?_alloc_lt _ _ _ (by simp)]; simp), by first | (simp; done) | (show ((wr.alloc _).alloc _).cell? _ = _; rw [World.cell?_alloc_lt _ _ _ (by simp)]; simp), by first | (simp; done) | (show ((wr.alloc _).alloc _).cell? _ = _; rw [World.cell?_alloc_lt _ _ _ (by simp)]; simp), by first | (simp; done) | (show ((wr.alloc _).alloc _).cell? _ = _; rw [World.cell?_alloc_lt _ _ _ (by simp)]; simp), by first | (simp; done) | (show ((wr.alloc _).alloc _).cell? _ = _; rw [World.cell?_alloc_lt _ _ _ (by simp)]; simp), grow_drew (grow_alloc (grow_alloc (Below.refl _ _) _) _)⟩
        · exact ⟨_, _, rfl, rfl, by first | (simp; done) | (show ((wr.alloc _).alloc _).cell? _ = _; rw [World.cell?_alloc_lt _ _ _ (by simp)]; simp), by first | (simp; done) | (show ((wr.alloc _).alloc _).cell? _ = _; rw [World.cell?_alloc_lt _ _ _ (by simp)]; simp), by first | (simp; done) | (show ((wr.alloc _).alloc _).cell? _ = _; rw [World.cell?_alloc_lt _ _ _ (by simp)]; simp), by first | (simp; done) | (show ((wr.alloc _).alloc _).cell? _ = _; rw [World.cell?_alloc_lt _ _ _ (by simp)]; simp), by first | (simp; done) | (show ((wr.alloc _).alloc _).cell? _ = _; rw [World.cell?_alloc_lt _ _ _ (by simp)]; simp), by first | (simp; done) | (show ((wr.alloc _).alloc _).cell? _ = _; rw [World.cell?_alloc_lt _ _ _ (by simp)]; simp), grow_drew (grow_alloc (grow_alloc (Below.refl _ _) _) _)⟩
      case rest =>
        obtain ⟨X, Y, rfl, rfl, x0', x1', x2', y0', y1', y2', hbc⟩ := hcut
        have HXc : Hid (IsX wc ⟨ra, ga, sa, rc, gc, sc, rs, gs, ss⟩) := HX.out.below hbc
        have HYc : Hid (IsX wc ⟨ra', ga', sa', rc', gc', sc', rs, gs, ss⟩) := HY.out.below hbc
        have HBc : Hid (Below w.heap.size w wc) := grow_trans hnx.out hbc
        clear hbc HX HY hnx d0 d1 d2 f0 f1 f2 n0 n1 n2 n3 hbl hbl' HC HS H1 H2 HM
        have CI : Hid (∀ w', IsInts w' ra rs → IsInts w' ra' rs → Calls Try.prog 12 #[.slice ra rs.length rc, .slice ra' rs.length rc'] w' fun e w'' => e = .returned (.bool true) ∧ Below w'.heap.size w' w'') := fun w' q1 q2 => by
          have h := sameInts_any rs rs ra ra' rc rc' w' (by unfold maxLen; omega) q1 q2
          exact h.mono fun e w'' ⟨h1, h2⟩ => ⟨by rw [h1]; simp, h2⟩
        have g1 : ((gs.length : Int) != (gs.length : Int)) = false := by simp
        have g2 : ((ss.length : Int) != (ss.length : Int)) = false := by simp
        go_wp2_with fail
        refine (CI.out _ HXc.out.t.r HYc.out.t.r).mono ?_
        rintro e w2 ⟨rfl, hb2⟩
        have x0' := ext_cell hb2 x0'
        have x1' := ext_cell hb2 x1'
        have x2' := ext_cell hb2 x2'
        have y0' := ext_cell hb2 y0'
        have y1' := ext_cell hb2 y1'
        have y2' := ext_cell hb2 y2'
        have HX2 : Hid (IsX w2 ⟨ra, ga, sa, rc, gc, sc, rs, gs, ss⟩) := HXc.out.below hb2
        have HY2 : Hid (IsX w2 ⟨ra', ga', sa', rc', gc', sc', rs, gs, ss⟩) := HYc.out.below hb2
        have HB2 : Hid (Below w.heap.size w w2) := grow_trans HBc.out hb2
        clear hb2 HXc HYc HBc CI
        go_wp2
        go_loopw [8] (fun i wr => ∃ j : Nat, j ≤ gs.length ∧ i = .int .i64 j ∧ Hid (Below w2.heap.size w2 wr)) (fun i _ => gs.length - (intOf i).toNat)
        case atStart => exact ⟨0, Nat.zero_le _, rfl, Below.refl _ _⟩
        case round =>
          obtain ⟨j, hj, rfl, hn2⟩ := hrel
          by_cases hlt2 : j < gs.length
          · obtain ⟨bg, og, rfl, _, k0, k1, k2, k3, k4⟩ := HX2.out.t.g j hlt2
            obtain ⟨bg', og', rfl, _, m0, m1, m2, m3, m4⟩ := HY2.out.t.g j hlt2
            have k0 := ext_cell hn2.out k0
            have k1 := ext_cell hn2.out k1
            have k2 := ext_cell hn2.out k2
            have k3 := ext_cell hn2.out k3
            have k4 := ext_cell hn2.out k4
            have m0 := ext_cell hn2.out m0
            have m1 := ext_cell hn2.out m1
            have m2 := ext_cell hn2.out m2
            have m3 := ext_cell hn2.out m3
            have m4 := ext_cell hn2.out m4
            have x1' := ext_cell hn2.out x1'
            have y1' := ext_cell hn2.out y1'
            generalize gs.getD j g0 = G at *
            obtain ⟨Gk, Gak, Gan, Gbk, Gbn⟩ := G
            simp only at k0 k1 k2 k3 k4 m0 m1 m2 m3 m4
            have j1 : (0 : Int) ≤ (j : Int) := by omega
            have j2 : (j : Int) < (gs.length : Int) := by omega
            clear HX2 HY2
            go_wp2_with fail
            go_quiet (fail)
            go_wp2
            go_roundw
            case rel => exact ⟨j + 1, by omega, by go_num, below_drewN hn2.out _⟩
            case measure => simp [intOf]; omega
          · have x2' := ext_cell hn2.out x2'
            have y2' := ext_cell hn2.out y2'
            have x1' := ext_cell hn2.out x1'
            have HB3 : Hid (Below w.heap.size w wr) := grow_trans HB2.out hn2.out
            have HX3 : Hid (IsX wr ⟨ra, ga, sa, rc, gc, sc, rs, gs, ss⟩) := HX2.out.below hn2.out
            have HY3 : Hid (IsX wr ⟨ra', ga', sa', rc', gc', sc', rs, gs, ss⟩) := HY2.out.below hn2.out
            clear HX2 HY2 HB2 hn2
            go_wp2
            go_loopw [9] (fun i wq => ∃ j : Nat, j ≤ ss.length ∧ i = .int .i64 j ∧ Hid (Below wr.heap.size wr wq)) (fun i _ => ss.length - (intOf i).toNat)
            case atStart => exact ⟨0, Nat.zero_le _, rfl, Below.refl _ _⟩
            case round =>
              obtain ⟨j2, hj2, rfl, hn3⟩ := hrel
              have x2' := ext_cell hn3.out x2'
              have y2' := ext_cell hn3.out y2'
              by_cases hlt3 : j2 < ss.length
              · obtain ⟨bg, og, rfl, _, k0, k1, k2, k3, k4, k5⟩ := HX3.out.t.s j2 hlt3
                obtain ⟨bg', og', rfl, _, m0, m1, m2, m3, m4, m5⟩ := HY3.out.t.s j2 hlt3
                have k0 := ext_cell hn3.out k0
                have k1 := ext_cell hn3.out k1
                have k2 := ext_cell hn3.out k2
                have k3 := ext_cell hn3.out k3
                have k4 := ext_cell hn3.out k4
                have k5 := ext_cell hn3.out k5
                have m0 := ext_cell hn3.out m0
                have m1 := ext_cell hn3.out m1
                have m2 := ext_cell hn3.out m2
                have m3 := ext_cell hn3.out m3
                have m4 := ext_cell hn3.out m4
                have m5 := ext_cell hn3.out m5
                generalize ss.getD j2 s0 = G at *
                obtain ⟨Gy, Gk, Gak, Gan, Gbk, Gbn⟩ := G
                simp only at k0 k1 k2 k3 k4 k5 m0 m1 m2 m3 m4 m5
                have j1 : (0 : Int) ≤ (j2 : Int) := by omega
                have j3 : (j2 : Int) < (ss.length : Int) := by omega
                clear HX3 HY3
                go_wp2_with fail
                go_quiet (fail)
                go_wp2
                go_roundw
                case rel => exact ⟨j2 + 1, by omega, by go_num, below_drewN hn3.out _⟩
                case measure => simp [intOf]; omega
              · have HB4 : Hid (Below w.heap.size w wr) := grow_trans HB3.out hn3.out
                clear hn3 HX3 HY3 HB3
                go_wp2
                go_roundw
                case rel => exact ⟨k + 1, by omega, by go_num, HB4⟩
                case measure => simp [intOf]; omega
    · go_wp2
      go_ret
      exact ⟨rfl, hnx.out⟩
end Go.Proofs.Ytcgpkonfneofdaa
