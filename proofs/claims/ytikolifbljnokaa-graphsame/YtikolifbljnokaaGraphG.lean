/-
  The statements' own begun examples of the graph (graphBegun).
  Conditions: none.
-/
import Derived.Test.YtikolifbljnokaaGraphF
import Derived.Test.YtikolifbljnokaaPlaceF
import Derived.WalkKit
import Derived.WalkSpells
import Derived.WalkLawsBesides
import Derived.ProofKit
import Derived.Deep.RegionHeld3
import Derived.BigQuiet
namespace Go.Proofs.Ytikolifbljnokaa
open Go.RowKit

def payC (n : Int) : Core := ([0, 1], [gPay n], [s1Pay n, s2Pay n])
def noteC : Core := ([1], [], [sNote])
def markC (n : Int) : Core := ([], [], [sMark n])
/-- A transaction that says this, wherever its lists lie. -/
def mkX (c : Core) : TxA := ⟨none, none, none, 0, 0, 0, c.1, c.2.1, c.2.2⟩

theorem pay_x (n : Int) (w : World) : Calls Try.prog 53 #[.int .i64 n] w fun e w' => ∃ x : TxA, e = .returned (.agg #[.slice x.ra x.rs.length x.rc, .slice x.ga x.gs.length x.gc, .slice x.sa x.ss.length x.sc]) ∧ Hid (IsX w' x) ∧ Hid (x.core = payC n) ∧ Below w.heap.size w w' := by
  refine (pay_at n w).mono ?_
  rintro e w' ⟨ra, ga, sa, rc, gc, sc, rfl, ht, _, hb⟩
  exact ⟨⟨ra, ga, sa, rc, gc, sc, [0, 1], [gPay n], [s1Pay n, s2Pay n]⟩, rfl, ⟨ht, some_of_ints ht.r, some_of_gs ht.g, some_of_ss ht.s⟩, (rfl : _ = _), hb⟩
theorem note_x (w : World) : Calls Try.prog 54 #[] w fun e w' => ∃ x : TxA, e = .returned (.agg #[.slice x.ra x.rs.length x.rc, .slice x.ga x.gs.length x.gc, .slice x.sa x.ss.length x.sc]) ∧ Hid (IsX w' x) ∧ Hid (x.core = noteC) ∧ Below w.heap.size w w' := by
  refine (note_at w).mono ?_
  rintro e w' ⟨ra, sa, rc, sc, rfl, ht, _, hb⟩
  exact ⟨⟨ra, none, sa, rc, 0, sc, [1], [], [sNote]⟩, rfl, ⟨ht, some_of_ints ht.r, fun _ => rfl, some_of_ss ht.s⟩, (rfl : _ = _), hb⟩
theorem mark_x (n : Int) (w : World) : Calls Try.prog 55 #[.int .i64 n] w fun e w' => ∃ x : TxA, e = .returned (.agg #[.slice x.ra x.rs.length x.rc, .slice x.ga x.gs.length x.gc, .slice x.sa x.ss.length x.sc]) ∧ Hid (IsX w' x) ∧ Hid (x.core = markC n) ∧ Below w.heap.size w w' := by
  refine (mark_at n w).mono ?_
  rintro e w' ⟨sa, sc, rfl, ht, _, hb⟩
  exact ⟨⟨none, none, sa, 0, 0, sc, [], [], [sMark n]⟩, rfl, ⟨ht, fun _ => rfl, fun _ => rfl, some_of_ss ht.s⟩, (rfl : _ = _), hb⟩

/-- All that is asked of transactions hangs on what they say. -/
theorem core_parts {x y : TxA} (h : x.core = y.core) : x.rs = y.rs ∧ x.gs = y.gs ∧ x.ss = y.ss := by
  unfold TxA.core at h
  injection h with h1 h2
  injection h2 with h2 h3
  exact ⟨h1, h2, h3⟩
theorem chkX_core {x y : TxA} (h : x.core = y.core) : chkX x = chkX y := by
  obtain ⟨h1, h2, h3⟩ := core_parts h
  unfold chkX
  rw [h1, h2, h3]
theorem clashX_core {x y x' y' : TxA} (h : x.core = x'.core) (h' : y.core = y'.core) : clashX x y = clashX x' y' := by
  obtain ⟨h1, _, h3⟩ := core_parts h
  obtain ⟨k1, _, k3⟩ := core_parts h'
  unfold clashX clashTo clashAt rdX wrX
  rw [h1, h3, k1, k3]
theorem clE_core {x y x' y' : TxA} (h : x.core = x'.core) (h' : y.core = y'.core) : clE x y = clE x' y' := by
  unfold clE
  rw [chkX_core h, chkX_core h']
theorem clB_core {x y x' y' : TxA} (h : x.core = x'.core) (h' : y.core = y'.core) : clB x y = clB x' y' := by
  unfold clB
  rw [clE_core h h', clashX_core h h']
theorem len_core {l m : List TxA} (h : l.map TxA.core = m.map TxA.core) : l.length = m.length := by
  have := congrArg List.length h
  simpa using this
theorem chkL_core {l m : List TxA} (h : l.map TxA.core = m.map TxA.core) : chkL l = chkL m := by
  have e : l.map chkX = m.map chkX := by
    refine List.ext_getElem? fun i => ?_
    have hi := congrArg (·[i]?) h
    simp only [List.getElem?_map] at hi ⊢
    cases h1 : l[i]? <;> cases h2 : m[i]? <;> simp_all
    exact chkX_core hi
  unfold chkL
  rw [e, len_core h]
theorem edgesIn_core {l m : List TxA} (h : l.map TxA.core = m.map TxA.core) (i : Nat) : ∀ k, edgesIn l i k = edgesIn m i k
  | 0 => rfl
  | k + 1 => by rw [edgesIn, edgesIn, edgesIn_core h i k, clashX_core (core_at h i) (core_at h k) (x := gX l i) (y := gX l k)]; rfl
theorem edgesTo_core {l m : List TxA} (h : l.map TxA.core = m.map TxA.core) : ∀ k, edgesTo l k = edgesTo m k
  | 0 => rfl
  | k + 1 => by rw [edgesTo, edgesTo, edgesTo_core h k, len_core h, edgesIn_core h k]
theorem edE_core {l m : List TxA} (h : l.map TxA.core = m.map TxA.core) : edE l = edE m := by
  unfold edE edgesL
  rw [chkL_core h, len_core h, edgesTo_core h]
theorem swE_core {l m : List TxA} (h : l.map TxA.core = m.map TxA.core) (n : Int) : swE l n = swE m n := by
  unfold swE
  rw [chkL_core h, len_core h, clashX_core (core_at h n.toNat) (core_at h (n.toNat + 1)) (x := gX l n.toNat) (y := gX l (n.toNat + 1))]
  rfl
theorem swL_core {l m : List TxA} (h : l.map TxA.core = m.map TxA.core) (n : Int) : (swL l n).map TxA.core = (swL m n).map TxA.core := by
  unfold swL
  rw [swE_core h]
  split
  · exact swapX_core h _
  · rfl

theorem isTxs_2 (w : World) (x y : TxA) (n : Nat) (hn : n = w.heap.size) (hx : IsX w x) (hy : IsX w y) : IsTxs (w.alloc (.cells #[.slice x.ra x.rs.length x.rc, .slice x.ga x.gs.length x.gc, .slice x.sa x.ss.length x.sc, .slice y.ra y.rs.length y.rc, .slice y.ga y.gs.length y.gc, .slice y.sa y.ss.length y.sc] 26)) (some ⟨n, 0, none⟩) [x, y] := by
  subst hn
  intro i hi
  match i, hi with
  | 0, _ => exact ⟨w.heap.size, 0, rfl, by simp, by simp, by simp, by simp, hx.below (grow_alloc (Below.refl _ _) _)⟩
  | 1, _ => exact ⟨w.heap.size, 0, rfl, by simp, by simp, by simp, by simp, hy.below (grow_alloc (Below.refl _ _) _)⟩
theorem isTxs_4 (w : World) (x y z u : TxA) (n : Nat) (hn : n = w.heap.size) (hx : IsX w x) (hy : IsX w y) (hz : IsX w z) (hu : IsX w u) : IsTxs (w.alloc (.cells #[.slice x.ra x.rs.length x.rc, .slice x.ga x.gs.length x.gc, .slice x.sa x.ss.length x.sc, .slice y.ra y.rs.length y.rc, .slice y.ga y.gs.length y.gc, .slice y.sa y.ss.length y.sc, .slice z.ra z.rs.length z.rc, .slice z.ga z.gs.length z.gc, .slice z.sa z.ss.length z.sc, .slice u.ra u.rs.length u.rc, .slice u.ga u.gs.length u.gc, .slice u.sa u.ss.length u.sc] 26)) (some ⟨n, 0, none⟩) [x, y, z, u] := by
  subst hn
  intro i hi
  match i, hi with
  | 0, _ => exact ⟨w.heap.size, 0, rfl, by simp, by simp, by simp, by simp, hx.below (grow_alloc (Below.refl _ _) _)⟩
  | 1, _ => exact ⟨w.heap.size, 0, rfl, by simp, by simp, by simp, by simp, hy.below (grow_alloc (Below.refl _ _) _)⟩
  | 2, _ => exact ⟨w.heap.size, 0, rfl, by simp, by simp, by simp, by simp, hz.below (grow_alloc (Below.refl _ _) _)⟩
  | 3, _ => exact ⟨w.heap.size, 0, rfl, by simp, by simp, by simp, by simp, hu.below (grow_alloc (Below.refl _ _) _)⟩

theorem gbE1 : clE (mkX (payC 1)) (mkX noteC) = 0 := by decide
theorem gbB1 : clB (mkX (payC 1)) (mkX noteC) = true := by decide
theorem gbE2 : clE (mkX noteC) (mkX (markC 1)) = 0 := by decide
theorem gbB2 : clB (mkX noteC) (mkX (markC 1)) = false := by decide
theorem gbE3 : chkL [mkX (payC 1), mkX noteC, mkX (markC 1), mkX (payC 2)] = 0 := by decide
theorem gbL3 : edE [mkX (payC 1), mkX noteC, mkX (markC 1), mkX (payC 2)] = [(0, 1), (0, 3), (1, 3)] := by decide
theorem gbE4 : swE [mkX noteC, mkX (markC 1)] 0 = 0 := by decide
theorem gbE5 : swE [mkX (payC 1), mkX noteC] 0 = 1 := by decide

set_option maxRecDepth 100000 in
set_option maxHeartbeats 4000000 in
theorem graphBegun_any (w : World) : Calls Try.prog 18 #[] w fun e w' => e = .returned (.bool true) ∧ Below w.heap.size w w' := by
  have CC : Hid (∀ (x y : TxA) (a b : Core) (c : Int) (t : Bool) (w : World), IsX w x → IsX w y → x.core = a → y.core = b → clE (mkX a) (mkX b) = c → clB (mkX a) (mkX b) = t → Calls Try.prog 11 #[.agg #[.slice x.ra x.rs.length x.rc, .slice x.ga x.gs.length x.gc, .slice x.sa x.ss.length x.sc], .agg #[.slice y.ra y.rs.length y.rc, .slice y.ga y.gs.length y.gc, .slice y.sa y.ss.length y.sc]] w fun e w' => e = .returned (.tuple #[.bool t, .int .i64 c]) ∧ Below w.heap.size w w') := fun x y a b c t w hx hy ha hb hc ht => by
    have h := clash_any x y w hx hy
    rw [clE_core (x' := mkX a) (y' := mkX b) ha hb, clB_core (x' := mkX a) (y' := mkX b) ha hb, hc, ht] at h
    exact h
  have CE : Hid (∀ (A : Option Addr) (c : Nat) (l m : List TxA) (L : List (Nat × Nat)) (k : Nat) (w : World), IsTxs w A l → l.map TxA.core = m.map TxA.core → chkL m = 0 → edE m = L → l.length = k → Calls Try.prog 12 #[.slice A k c] w fun e w' => ∃ a c, e = .returned (.tuple #[.slice a L.length c, .int .i64 0]) ∧ Hid (IsEds w' a L) ∧ Below w.heap.size w w') := fun A c l m L k w hl hc h0 h1 hk => by
    have h := edges_any A c l w hl
    rw [edE_core hc, chkL_core hc, h0, h1, hk] at h
    exact h
  have CS : Hid (∀ (A : Option Addr) (c : Nat) (l m : List TxA) (n : Int) (E : Int) (k : Nat) (w : World), IsTxs w A l → l.map TxA.core = m.map TxA.core → swE m n = E → l.length = k → k ≤ 100 → Calls Try.prog 13 #[.slice A k c, .int .i64 n] w fun e w' => ∃ a c cl, e = .returned (.tuple #[.slice a cl.length c, .int .i64 E]) ∧ Hid (IsTxs w' a cl) ∧ Hid (cl.map TxA.core = (swL m n).map TxA.core) ∧ Below w.heap.size w w') := fun A c l m n E k w hl hc h0 hk hk' => by
    have h := swap_any A c l n w hl (by unfold maxLen; omega)
    rw [swE_core hc, h0, hk] at h
    refine h.mono ?_
    rintro e w' ⟨v, rfl, ⟨cl, hr, hcr⟩, hb⟩
    obtain ⟨a, c, rfl, hT⟩ := hr.txs
    exact ⟨a, c, cl, rfl, hT, hcr.trans (swL_core hc n), hb⟩
  go_enter Try.func18, Try.ntmps18
  go_wp2_with fail
  refine (pay_x 1 _).mono ?_
  rintro e w1 ⟨x1, rfl, hx1, cx1, bw1⟩
  go_wp2_with fail
  refine (note_x _).mono ?_
  rintro e w2 ⟨x2, rfl, hx2, cx2, bw2⟩
  go_wp2_with fail
  refine (CC.out x1 x2 _ _ _ _ _ (hx1.out.below bw2) hx2.out cx1.out cx2.out gbE1 gbB1).mono ?_
  rintro e w3 ⟨rfl, bw3⟩
  have B3 : Hid (Below w.heap.size w w3) := grow_trans bw1 (grow_trans bw2 bw3)
  clear bw1 bw2 bw3 hx1 hx2 cx1 cx2
  go_wp2_with fail
  refine (note_x _).mono ?_
  rintro e w4 ⟨x3, rfl, hx3, cx3, bw4⟩
  go_wp2_with fail
  refine (mark_x 1 _).mono ?_
  rintro e w5 ⟨x4, rfl, hx4, cx4, bw5⟩
  go_wp2_with fail
  refine (CC.out x3 x4 _ _ _ _ _ (hx3.out.below bw5) hx4.out cx3.out cx4.out gbE2 gbB2).mono ?_
  rintro e w6 ⟨rfl, bw6⟩
  have B6 : Hid (Below w.heap.size w w6) := grow_trans B3.out (grow_trans bw4 (grow_trans bw5 bw6))
  clear bw4 bw5 bw6 hx3 hx4 cx3 cx4 B3
  go_wp2_with fail
  refine (pay_x 1 _).mono ?_
  rintro e w7 ⟨x5, rfl, hx5, cx5, bw7⟩
  go_wp2_with fail
  refine (note_x _).mono ?_
  rintro e w8 ⟨x6, rfl, hx6, cx6, bw8⟩
  go_wp2_with fail
  refine (mark_x 1 _).mono ?_
  rintro e w9 ⟨x7, rfl, hx7, cx7, bw9⟩
  go_wp2_with fail
  refine (pay_x 2 _).mono ?_
  rintro e w10 ⟨x8, rfl, hx8, cx8, bw10⟩
  have hT1 : Hid (IsTxs (w10.alloc (.cells #[.slice x5.ra x5.rs.length x5.rc, .slice x5.ga x5.gs.length x5.gc, .slice x5.sa x5.ss.length x5.sc, .slice x6.ra x6.rs.length x6.rc, .slice x6.ga x6.gs.length x6.gc, .slice x6.sa x6.ss.length x6.sc, .slice x7.ra x7.rs.length x7.rc, .slice x7.ga x7.gs.length x7.gc, .slice x7.sa x7.ss.length x7.sc, .slice x8.ra x8.rs.length x8.rc, .slice x8.ga x8.gs.length x8.gc, .slice x8.sa x8.ss.length x8.sc] 26)) (some ⟨w10.heap.size, 0, none⟩) [x5, x6, x7, x8]) := isTxs_4 w10 x5 x6 x7 x8 _ rfl (hx5.out.below (grow_trans bw8 (grow_trans bw9 bw10))) (hx6.out.below (grow_trans bw9 bw10)) (hx7.out.below bw10) hx8.out
  have hC1 : Hid ([x5, x6, x7, x8].map TxA.core = [mkX (payC 1), mkX noteC, mkX (markC 1), mkX (payC 2)].map TxA.core) := by
    show [x5.core, x6.core, x7.core, x8.core] = _
    rw [cx5.out, cx6.out, cx7.out, cx8.out]
    rfl
  have B10 : Hid (Below w.heap.size w (w10.alloc (.cells #[.slice x5.ra x5.rs.length x5.rc, .slice x5.ga x5.gs.length x5.gc, .slice x5.sa x5.ss.length x5.sc, .slice x6.ra x6.rs.length x6.rc, .slice x6.ga x6.gs.length x6.gc, .slice x6.sa x6.ss.length x6.sc, .slice x7.ra x7.rs.length x7.rc, .slice x7.ga x7.gs.length x7.gc, .slice x7.sa x7.ss.length x7.sc, .slice x8.ra x8.rs.length x8.rc, .slice x8.ga x8.gs.length x8.gc, .slice x8.sa x8.ss.length x8.sc] 26))) := grow_alloc (grow_trans B6.out (grow_trans bw7 (grow_trans bw8 (grow_trans bw9 bw10)))) _
  clear bw7 bw8 bw9 bw10 hx5 hx6 hx7 hx8 cx5 cx6 cx7 cx8 B6
  go_wp2_with fail
  refine (CE.out (some ⟨w10.heap.size, 0, none⟩) 4 [x5, x6, x7, x8] _ _ 4 _ hT1.out hC1.out gbE3 gbL3 rfl).mono ?_
  rintro e w11 ⟨ea, ec, rfl, hE11, bw11⟩
  have B11 : Hid (Below w.heap.size w w11) := grow_trans B10.out bw11
  clear bw11 B10 hT1 hC1
  go_wp2_with fail
  refine (note_x _).mono ?_
  rintro e w12 ⟨x9, rfl, hx9, cx9, bw12⟩
  go_wp2_with fail
  refine (mark_x 1 _).mono ?_
  rintro e w13 ⟨y1, rfl, hy1, cy1, bw13⟩
  have hT2 : Hid (IsTxs (w13.alloc (.cells #[.slice x9.ra x9.rs.length x9.rc, .slice x9.ga x9.gs.length x9.gc, .slice x9.sa x9.ss.length x9.sc, .slice y1.ra y1.rs.length y1.rc, .slice y1.ga y1.gs.length y1.gc, .slice y1.sa y1.ss.length y1.sc] 26)) (some ⟨w13.heap.size, 0, none⟩) [x9, y1]) := isTxs_2 w13 x9 y1 _ rfl (hx9.out.below bw13) hy1.out
  have hC2 : Hid ([x9, y1].map TxA.core = [mkX noteC, mkX (markC 1)].map TxA.core) := by
    show [x9.core, y1.core] = _
    rw [cx9.out, cy1.out]
    rfl
  have D13 : Hid (Below w11.heap.size w11 (w13.alloc (.cells #[.slice x9.ra x9.rs.length x9.rc, .slice x9.ga x9.gs.length x9.gc, .slice x9.sa x9.ss.length x9.sc, .slice y1.ra y1.rs.length y1.rc, .slice y1.ga y1.gs.length y1.gc, .slice y1.sa y1.ss.length y1.sc] 26))) := grow_alloc (grow_trans bw12 bw13) _
  clear bw12 bw13 hx9 hy1 cx9 cy1
  go_wp2_with fail
  refine (CS.out (some ⟨w13.heap.size, 0, none⟩) 2 [x9, y1] _ 0 _ 2 _ hT2.out hC2.out gbE4 rfl (by omega)).mono ?_
  rintro e w14 ⟨sa, sc, cl, rfl, hT14, hC14, bw14⟩
  have D14 : Hid (Below w11.heap.size w11 w14) := grow_trans D13.out bw14
  clear bw14 D13 hT2 hC2
  go_wp2_with fail
  refine (pay_x 1 _).mono ?_
  rintro e w15 ⟨y2, rfl, hy2, cy2, bw15⟩
  go_wp2_with fail
  refine (note_x _).mono ?_
  rintro e w16 ⟨y3, rfl, hy3, cy3, bw16⟩
  have hT3 : Hid (IsTxs (w16.alloc (.cells #[.slice y2.ra y2.rs.length y2.rc, .slice y2.ga y2.gs.length y2.gc, .slice y2.sa y2.ss.length y2.sc, .slice y3.ra y3.rs.length y3.rc, .slice y3.ga y3.gs.length y3.gc, .slice y3.sa y3.ss.length y3.sc] 26)) (some ⟨w16.heap.size, 0, none⟩) [y2, y3]) := isTxs_2 w16 y2 y3 _ rfl (hy2.out.below bw16) hy3.out
  have hC3 : Hid ([y2, y3].map TxA.core = [mkX (payC 1), mkX noteC].map TxA.core) := by
    show [y2.core, y3.core] = _
    rw [cy2.out, cy3.out]
    rfl
  have D16 : Hid (Below w14.heap.size w14 (w16.alloc (.cells #[.slice y2.ra y2.rs.length y2.rc, .slice y2.ga y2.gs.length y2.gc, .slice y2.sa y2.ss.length y2.sc, .slice y3.ra y3.rs.length y3.rc, .slice y3.ga y3.gs.length y3.gc, .slice y3.sa y3.ss.length y3.sc] 26))) := grow_alloc (grow_trans bw15 bw16) _
  clear bw15 bw16 hy2 hy3 cy2 cy3
  go_wp2_with fail
  refine (CS.out (some ⟨w16.heap.size, 0, none⟩) 2 [y2, y3] _ 0 _ 2 _ hT3.out hC3.out gbE5 rfl (by omega)).mono ?_
  rintro e w17 ⟨sa', sc', cl', rfl, _, _, bw17⟩
  have D17 : Hid (Below w14.heap.size w14 w17) := grow_trans D16.out bw17
  have hT17 : Hid (IsTxs w17 sa cl) := hT14.out.below D17.out
  have hE17 : Hid (IsEds w17 ea [(0, 1), (0, 3), (1, 3)]) := hE11.out.below (grow_trans D14.out D17.out)
  have B17 : Hid (Below w.heap.size w w17) := grow_trans B11.out (grow_trans D14.out D17.out)
  clear bw17 D16 D17 D14 hT3 hC3 hT14 hE11 B11
  obtain ⟨b, off, rfl, _, k0, k1⟩ := hE17.out 0 (by simp)
  obtain ⟨b', off', hbe, _, k2, k3⟩ := hE17.out 1 (by simp)
  obtain ⟨b2, off2, hbe2, _, k4, k5⟩ := hE17.out 2 (by simp)
  injection hbe with hbe
  injection hbe with r1 r2 _
  injection hbe2 with hbe2
  injection hbe2 with r3 r4 _
  subst r1 r2 r3 r4
  simp at k0 k1 k2 k3 k4 k5
  clear hE17
  go_wp2_with fail
  refine (mark_x 1 _).mono ?_
  rintro e w18 ⟨z1, rfl, hz1, cz1, bw18⟩
  clear k0 k1 k2 k3 k4 k5
  go_wp2_with fail
  refine (note_x _).mono ?_
  rintro e w19 ⟨z2, rfl, hz2, cz2, bw19⟩
  have hT4 : Hid (IsTxs (w19.alloc (.cells #[.slice z1.ra z1.rs.length z1.rc, .slice z1.ga z1.gs.length z1.gc, .slice z1.sa z1.ss.length z1.sc, .slice z2.ra z2.rs.length z2.rc, .slice z2.ga z2.gs.length z2.gc, .slice z2.sa z2.ss.length z2.sc] 26)) (some ⟨w19.heap.size, 0, none⟩) [z1, z2]) := isTxs_2 w19 z1 z2 _ rfl (hz1.out.below bw19) hz2.out
  have D19 : Hid (Below w17.heap.size w17 (w19.alloc (.cells #[.slice z1.ra z1.rs.length z1.rc, .slice z1.ga z1.gs.length z1.gc, .slice z1.sa z1.ss.length z1.sc, .slice z2.ra z2.rs.length z2.rc, .slice z2.ga z2.gs.length z2.gc, .slice z2.sa z2.ss.length z2.sc] 26))) := grow_alloc (grow_trans bw18 bw19) _
  have hC4 : Hid (cl.map TxA.core = [z1, z2].map TxA.core) := by
    show _ = [z1.core, z2.core]
    rw [hC14.out, cz1.out, cz2.out]
    rfl
  have SM : Hid (∀ x ∈ cl, x.rs.length ≤ 100 ∧ x.gs.length ≤ 100 ∧ x.ss.length ≤ 100) := fun x hx => by
    have hm : x.core ∈ [markC 1, noteC] := by
      have h := hC14.out
      have h' : (swL [mkX noteC, mkX (markC 1)] 0).map TxA.core = [markC 1, noteC] := rfl
      rw [← h', ← h]
      exact List.mem_map.2 ⟨x, hx, rfl⟩
    simp only [List.mem_cons, List.not_mem_nil, or_false, TxA.core, markC, noteC, Prod.mk.injEq] at hm
    rcases hm with ⟨h1, h2, h3⟩ | ⟨h1, h2, h3⟩ <;> (rw [h1, h2, h3]; simp)
  have hl2 : Hid (cl.length = 2) := by
    have h := congrArg List.length hC4.out
    show _ = _
    simpa using h
  have hT18 : Hid (IsTxs (w19.alloc (.cells #[.slice z1.ra z1.rs.length z1.rc, .slice z1.ga z1.gs.length z1.gc, .slice z1.sa z1.ss.length z1.sc, .slice z2.ra z2.rs.length z2.rc, .slice z2.ga z2.gs.length z2.gc, .slice z2.sa z2.ss.length z2.sc] 26)) sa cl) := hT17.out.below D19.out
  have B19 : Hid (Below w.heap.size w (w19.alloc (.cells #[.slice z1.ra z1.rs.length z1.rc, .slice z1.ga z1.gs.length z1.gc, .slice z1.sa z1.ss.length z1.sc, .slice z2.ra z2.rs.length z2.rc, .slice z2.ga z2.gs.length z2.gc, .slice z2.sa z2.ss.length z2.sc] 26))) := grow_trans B17.out D19.out
  have SS : Hid (Calls Try.prog 20 #[.slice sa cl.length sc, .slice (some ⟨w19.heap.size, 0, none⟩) 2 2] (w19.alloc (.cells #[.slice z1.ra z1.rs.length z1.rc, .slice z1.ga z1.gs.length z1.gc, .slice z1.sa z1.ss.length z1.sc, .slice z2.ra z2.rs.length z2.rc, .slice z2.ga z2.gs.length z2.gc, .slice z2.sa z2.ss.length z2.sc] 26)) fun e w' => e = .returned (.bool true) ∧ Below w.heap.size w w') := by
    refine (sameTxns_eq cl [z1, z2] sa (some ⟨w19.heap.size, 0, none⟩) sc 2 _ hC4.out (by have := hl2.out; omega) SM.out hT18.out hT4.out).mono ?_
    rintro e w' ⟨h1, h2⟩
    exact ⟨h1, grow_trans B19.out h2⟩
  clear bw18 bw19 hz1 hz2 cz1 cz2 hT4 D19 hC4 SM hT18 hT17 B17 B19 hC14
  go_wp2_with fail
  refine SS.out.mono ?_
  clear SS
  rintro e w20 ⟨rfl, bw20⟩
  have B20 : Hid (Below w.heap.size w w20) := bw20
  clear bw20
  go_wp2
  go_ret
  exact ⟨rfl, B20.out⟩
end Go.Proofs.Ytikolifbljnokaa
