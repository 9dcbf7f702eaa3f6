/-
  GraphTells: graph's Clash, Edges and Swap answer just what the document says, errors too, whatever they are handed.
  Conditions: none beyond the form's own (the arguments can be read).
-/
import Derived.Test.YtikolifbljnokaaGraphG
import Derived.WalkKit
import Derived.WalkSpells
import Derived.WalkLawsBesides
import Derived.ProofKit
import Derived.OpenShut
import Derived.ChangeOld
import Derived.Deep.Slices
import Derived.Deep.Strs
import Derived.Deep.RegionHeld3
import Derived.BigQuiet
import Derived.Deep.RegionLaw
import Derived.Deep.DeepCutAuto
import Derived.Lib.SmallJoins
namespace Go.Proofs.Ytikolifbljnokaa
open Go.ChangeShapes Go.WideShapes Go.ChangeAt Go.RowKit Go.Deep

theorem swL_small {l : List TxA} {n : Int} : ∀ x ∈ swL l n, x.rs.length ≤ 100 ∧ x.gs.length ≤ 100 ∧ x.ss.length ≤ 100 := fun x hx => by
  unfold swL at hx
  split at hx
  · rename_i h
    unfold swE at h
    split at h
    · rename_i h0
      have hz := firstNZ_zero _ h0
      have hC : chkL l = 0 := by simpa using hz 0
      have hN := nextE_zero (n := n) (k := l.length) (by simpa using hz 1)
      have hm := swapX_mem (by omega) hx
      obtain ⟨i, hi, rfl⟩ := List.mem_iff_getElem.1 hm
      have hc := chkL_at0 hC i hi
      have e : l.getD i x0 = l[i] := by simp [List.getD, hi]
      rw [e] at hc
      have hp := many_small _ _ _ (chk_parts (hc : chkTx l[i].rs l[i].gs l[i].ss = 0)).1
      exact ⟨by omega, by omega, by omega⟩
    · rename_i h0; exact absurd h h0
  · cases hx
theorem swL_len (l : List TxA) (n : Int) : (swL l n).length ≤ 1000 := by
  unfold swL
  split
  · rename_i h
    unfold swE at h
    split at h
    · rename_i h0
      have hz := firstNZ_zero _ h0
      have hC : chkL l = 0 := by simpa using hz 0
      have := chkL_small hC
      rw [swapX_len]
      omega
    · rename_i h0; exact absurd h h0
  · simp
theorem core_few {cl m : List TxA} (h : cl.map TxA.core = m.map TxA.core) (hm : ∀ x ∈ m, x.rs.length ≤ 100 ∧ x.gs.length ≤ 100 ∧ x.ss.length ≤ 100) : ∀ x ∈ cl, x.rs.length ≤ 100 ∧ x.gs.length ≤ 100 ∧ x.ss.length ≤ 100 := fun x hx => by
  have h1 : x.core ∈ m.map TxA.core := by rw [← h]; exact List.mem_map.2 ⟨x, hx, rfl⟩
  obtain ⟨y, hy, e⟩ := List.mem_map.1 h1
  obtain ⟨e1, e2, e3⟩ := core_parts e
  have := hm y hy
  rw [← e1, ← e2, ← e3]
  exact this

variable (x y : TxA) (la : Option Addr) (lc : Nat) (l : List TxA) (n : Int)

set_option maxRecDepth 100000 in
set_option maxHeartbeats 8000000 in
theorem graphTells_walk (w : World) (hx : IsX w x) (hy : IsX w y) (hl : IsTxs w la l) (hm : l.length ≤ maxLen) :
    Calls Try.prog 3 #[.agg #[.slice x.ra x.rs.length x.rc, .slice x.ga x.gs.length x.gc, .slice x.sa x.ss.length x.sc], .agg #[.slice y.ra y.rs.length y.rc, .slice y.ga y.gs.length y.gc, .slice y.sa y.ss.length y.sc], .slice la l.length lc, .int .i64 n] w fun e w' => e = .returned (.bool true) ∧ Below w.heap.size w w' := by
  have HX : Hid (IsX w x) := hx
  have HY : Hid (IsX w y) := hy
  have HL : Hid (IsTxs w la l) := hl
  have CT : Hid (∀ (x : TxA) (w : World), IsX w x → Calls Try.prog 14 #[.agg #[.slice x.ra x.rs.length x.rc, .slice x.ga x.gs.length x.gc, .slice x.sa x.ss.length x.sc]] w fun e w' => e = .returned (.int .i64 (chkX x)) ∧ Below w.heap.size w w') := fun x w h => checkTxn_any x.ra x.ga x.sa x.rc x.gc x.sc x.rs x.gs x.ss w h.t
  have SW : Hid (∀ w, IsTxs w la l → Calls Try.prog 13 #[.slice la l.length lc, .int .i64 n] w fun e w' => ∃ a c cl, e = .returned (.tuple #[.slice a cl.length c, .int .i64 (swE l n)]) ∧ Hid (IsTxs w' a cl) ∧ Hid (cl.map TxA.core = (swL l n).map TxA.core) ∧ Below w.heap.size w w') := fun w h => (swap_any la lc l n w h hm).mono fun e w' ⟨v, he, ⟨cl, hr, hcr⟩, hb⟩ => by
    obtain ⟨a, c, rfl, hT⟩ := hr.txs
    exact ⟨a, c, cl, he, hT, hcr, hb⟩
  have SO : Hid (∀ w, IsTxs w la l → Calls Try.prog 17 #[.slice la l.length lc, .int .i64 n] w fun e w' => ∃ a c, e = .returned (.tuple #[.slice a (swL l n).length c, .int .i64 (swE l n)]) ∧ IsTxs w' a (swL l n) ∧ Below w.heap.size w w') := fun w h => swapOf_any la lc l n w h hm
  have ST : Hid (∀ (cl : List TxA) (a a' : Option Addr) (c c' : Nat) (w : World), cl.map TxA.core = (swL l n).map TxA.core → IsTxs w a cl → IsTxs w a' (swL l n) → Calls Try.prog 20 #[.slice a cl.length c, .slice a' (swL l n).length c'] w fun e w' => e = .returned (.bool true) ∧ Below w.heap.size w w') := fun cl a a' c c' w h h1 h2 => sameTxns_eq cl (swL l n) a a' c c' w h (by have := len_core h; have := swL_len l n; omega) (core_few h swL_small) h1 h2
  have EO : Hid (chkL l = 0 → ∀ w, IsTxs w la l → Calls Try.prog 16 #[.slice la l.length lc] w fun e w' => ∃ a c, e = .returned (.slice a (edE l).length c) ∧ Hid (IsEds w' a (edE l)) ∧ Below w.heap.size w w') := fun h0 w h => by
    have e1 : edE l = edgesL l := if_pos h0
    rw [e1]
    exact edgesOf_any la lc l w h (chkL_small h0)
  have E0 : Hid (¬ chkL l = 0 → edE l = []) := fun h => if_neg h
  have EL : Hid ((edE l).length ≤ 64) := by
    show _ ≤ _
    unfold edE
    split
    · rename_i h
      have h8 := chkL_small h
      have h1 := edgesTo_len l l.length
      have h2 : l.length * l.length ≤ 8 * 8 := Nat.mul_le_mul h8 h8
      unfold edgesL
      omega
    · simp
  have ED : Hid (∀ w, IsTxs w la l → Calls Try.prog 12 #[.slice la l.length lc] w fun e w' => ∃ a c, e = .returned (.tuple #[.slice a (edE l).length c, .int .i64 (chkL l)]) ∧ Hid (IsEds w' a (edE l)) ∧ Below w.heap.size w w') := edges_any la lc l
  have CK : Hid (∀ w, IsTxs w la l → Calls Try.prog 15 #[.slice la l.length lc] w fun e w' => e = .returned (.int .i64 (chkL l)) ∧ Below w.heap.size w w') := checkTxns_any la lc l
  have CL := clash_any x y
  have CS := clashes_any x y
  have hE1 : Hid (chkX x = 0 → clE x y = chkX y) := fun h => if_pos h
  have hE2 : Hid (¬ chkX x = 0 → clE x y = chkX x) := fun h => if_neg h
  have hB0 : Hid (clE x y = 0 → clB x y = clashX x y) := fun h => if_pos h
  have hB1 : Hid (¬ clE x y = 0 → clB x y = false) := fun h => if_neg h
  clear hx hy hl hm
  have g1 : Hid (Below w.heap.size w ((w.alloc (.cells #[.slice x.ra x.rs.length x.rc, .slice x.ga x.gs.length x.gc, .slice x.sa x.ss.length x.sc] 26)).alloc (.cells #[.slice y.ra y.rs.length y.rc, .slice y.ga y.gs.length y.gc, .slice y.sa y.ss.length y.sc] 26))) := grow_alloc (grow_alloc (Below.refl _ _) _) _
  have p0 : ((w.alloc (.cells #[.slice x.ra x.rs.length x.rc, .slice x.ga x.gs.length x.gc, .slice x.sa x.ss.length x.sc] 26)).alloc (.cells #[.slice y.ra y.rs.length y.rc, .slice y.ga y.gs.length y.gc, .slice y.sa y.ss.length y.sc] 26)).cell? ⟨w.heap.size, 0, none⟩ = some (.slice x.ra x.rs.length x.rc) := by rw [World.cell?_alloc_lt _ _ _ (by simp)]; simp
  have p1 : ((w.alloc (.cells #[.slice x.ra x.rs.length x.rc, .slice x.ga x.gs.length x.gc, .slice x.sa x.ss.length x.sc] 26)).alloc (.cells #[.slice y.ra y.rs.length y.rc, .slice y.ga y.gs.length y.gc, .slice y.sa y.ss.length y.sc] 26)).cell? ⟨w.heap.size, 1, none⟩ = some (.slice x.ga x.gs.length x.gc) := by rw [World.cell?_alloc_lt _ _ _ (by simp)]; simp
  have p2 : ((w.alloc (.cells #[.slice x.ra x.rs.length x.rc, .slice x.ga x.gs.length x.gc, .slice x.sa x.ss.length x.sc] 26)).alloc (.cells #[.slice y.ra y.rs.length y.rc, .slice y.ga y.gs.length y.gc, .slice y.sa y.ss.length y.sc] 26)).cell? ⟨w.heap.size, 2, none⟩ = some (.slice x.sa x.ss.length x.sc) := by rw [World.cell?_alloc_lt _ _ _ (by simp)]; simp
  have q0 : ((w.alloc (.cells #[.slice x.ra x.rs.length x.rc, .slice x.ga x.gs.length x.gc, .slice x.sa x.ss.length x.sc] 26)).alloc (.cells #[.slice y.ra y.rs.length y.rc, .slice y.ga y.gs.length y.gc, .slice y.sa y.ss.length y.sc] 26)).cell? ⟨w.heap.size + 1, 0, none⟩ = some (.slice y.ra y.rs.length y.rc) := by simp
  have q1 : ((w.alloc (.cells #[.slice x.ra x.rs.length x.rc, .slice x.ga x.gs.length x.gc, .slice x.sa x.ss.length x.sc] 26)).alloc (.cells #[.slice y.ra y.rs.length y.rc, .slice y.ga y.gs.length y.gc, .slice y.sa y.ss.length y.sc] 26)).cell? ⟨w.heap.size + 1, 1, none⟩ = some (.slice y.ga y.gs.length y.gc) := by simp
  have q2 : ((w.alloc (.cells #[.slice x.ra x.rs.length x.rc, .slice x.ga x.gs.length x.gc, .slice x.sa x.ss.length x.sc] 26)).alloc (.cells #[.slice y.ra y.rs.length y.rc, .slice y.ga y.gs.length y.gc, .slice y.sa y.ss.length y.sc] 26)).cell? ⟨w.heap.size + 1, 2, none⟩ = some (.slice y.sa y.ss.length y.sc) := by simp
  go_enter Try.func3, Try.ntmps3
  go_upto_region 1 with fail
  generalize ((w.alloc (.cells #[.slice x.ra x.rs.length x.rc, .slice x.ga x.gs.length x.gc, .slice x.sa x.ss.length x.sc] 26)).alloc (.cells #[.slice y.ra y.rs.length y.rc, .slice y.ga y.gs.length y.gc, .slice y.sa y.ss.length y.sc] 26)) = V at *
  generalize swE l n = se at *
  generalize hsl : swL l n = sl at *
  clear hsl
  generalize hed : edE l = ed at *
  clear hed
  generalize hce : chkL l = ce at *
  clear hce
  generalize clE x y = xe at *
  generalize clB x y = xb at *
  generalize clashX x y = xc at *
  go_wp2_with fail
  refine (CL _ (HX.out.below g1.out) (HY.out.below g1.out)).mono ?_
  rintro e w1 ⟨rfl, b1⟩
  have B1 : Hid (Below V.heap.size V w1) := b1
  clear b1 CL
  go_wp2_with fail
  refine (ED.out _ (HL.out.below (grow_trans g1.out B1.out))).mono ?_
  rintro e w2 ⟨ea, ec, rfl, hE, b2⟩
  have B2 : Hid (Below V.heap.size V w2) := grow_trans B1.out b2
  clear b2 ED B1
  go_wp2_with fail
  refine (SW.out _ (HL.out.below (grow_trans g1.out B2.out))).mono ?_
  rintro e w3 ⟨sa, sc, cl, rfl, hT, hC, b3⟩
  have B3 : Hid (Below V.heap.size V w3) := grow_trans B2.out b3
  have hE : Hid (IsEds w3 ea ed) := hE.out.below b3
  clear b3 SW B2
  have p0' := ext_cell B3.out p0
  have p1' := ext_cell B3.out p1
  have p2' := ext_cell B3.out p2
  go_wp2_with fail
  refine (CT.out x _ (HX.out.below (grow_trans g1.out B3.out))).mono ?_
  rintro e w4 ⟨rfl, b4⟩
  have B4 : Hid (Below V.heap.size V w4) := grow_trans B3.out b4
  have hE : Hid (IsEds w4 ea ed) := hE.out.below b4
  have hT : Hid (IsTxs w4 sa cl) := hT.out.below b4
  clear b4 B3 p0' p1' p2'
  by_cases cx : chkX x = 0
  · have hxe := hE1.out cx
    clear hE1 hE2
    subst hxe
    have hcx0 : Hid (chkX x = 0) := cx
    rw [cx]
    clear cx
    have q0' := ext_cell B4.out q0
    have q1' := ext_cell B4.out q1
    have q2' := ext_cell B4.out q2
    go_wp2_with fail
    refine (CT.out y _ (HY.out.below (grow_trans g1.out B4.out))).mono ?_
    rintro e w5 ⟨rfl, b5⟩
    have B5 : Hid (Below V.heap.size V w5) := grow_trans B4.out b5
    have hE : Hid (IsEds w5 ea ed) := hE.out.below b5
    have hT : Hid (IsTxs w5 sa cl) := hT.out.below b5
    clear b5 B4 q0' q1' q2' CT
    by_cases cy : chkX y = 0
    · have hxb := hB0.out cy
      clear hB0 hB1
      subst hxb
      rw [cy]
      clear cy
      go_wp2_with fail
      refine (CK.out _ (HL.out.below (grow_trans g1.out B5.out))).mono ?_
      rintro e u1 ⟨rfl, c1⟩
      have Bu1 : Hid (Below V.heap.size V u1) := grow_trans B5.out c1
      have hE : Hid (IsEds u1 ea ed) := hE.out.below c1
      have hT : Hid (IsTxs u1 sa cl) := hT.out.below c1
      clear c1 CK B5
      by_cases hce : ce = 0
      · subst hce
        have EO1 := EO.out rfl
        clear E0
        go_wp2_with fail
        refine (EO1 _ (HL.out.below (grow_trans g1.out Bu1.out))).mono ?_
        rintro e u2 ⟨wa, wc, rfl, hW, c2⟩
        have Bu2 : Hid (Below V.heap.size V u2) := grow_trans Bu1.out c2
        have hE : Hid (IsEds u2 ea ed) := hE.out.below c2
        have hT : Hid (IsTxs u2 sa cl) := hT.out.below c2
        clear c2 EO EO1 Bu1
        go_wp2_with fail
        refine (SO.out _ (HL.out.below (grow_trans g1.out Bu2.out))).mono ?_
        rintro e u3 ⟨oa, oc, rfl, hO, c3⟩
        have Bu3 : Hid (Below V.heap.size V u3) := grow_trans Bu2.out c3
        have hT : Hid (IsTxs u3 sa cl) := hT.out.below c3
        have hO : Hid (IsTxs u3 oa sl) := hO
        have hE : Hid (IsEds u3 ea ed) := hE.out.below c3
        have hW : Hid (IsEds u3 wa ed) := hW.out.below c3
        clear c3 SO Bu2
        have hne : ((ed.length : Int) != (ed.length : Int)) = false := by simp
        have HEL : Hid (ed.length ≤ 64) := EL
        clear EL
        go_wp2
        go_loopw [20] (fun i wr => ∃ k : Nat, k ≤ ed.length ∧ i = .int .i64 k ∧ Hid (Below u3.heap.size u3 wr)) (fun i _ => ed.length - (intOf i).toNat)
        case atStart => exact ⟨0, Nat.zero_le _, rfl, Below.refl _ _⟩
        case round =>
          obtain ⟨k, hk, rfl, hB⟩ := hrel
          by_cases hlt : k < ed.length
          · obtain ⟨b, off, rfl, _, k0, k1⟩ := hE.out k hlt
            obtain ⟨b', off', rfl, _, k2, k3⟩ := hW.out k hlt
            have k0 := ext_cell hB.out k0
            have k1 := ext_cell hB.out k1
            have k2 := ext_cell hB.out k2
            have k3 := ext_cell hB.out k3
            generalize ed.getD k (0, 0) = pr at *
            obtain ⟨z1, z2⟩ := pr
            simp only at k0 k1 k2 k3
            have j1 : (0 : Int) ≤ (k : Int) := by omega
            have j2 : (k : Int) < (ed.length : Int) := by omega
            have j3 : ed.length ≤ 64 := HEL.out
            clear hE hW
            go_wp2_with fail
            go_quiet (fail)
            go_wp2
            go_roundw
            case rel => exact ⟨k + 1, by omega, by go_num, below_drewN hB.out _⟩
            case measure => simp [intOf]; omega
          · have Bw : Hid (Below V.heap.size V wr) := grow_trans Bu3.out hB.out
            have hT : Hid (IsTxs wr sa cl) := hT.out.below hB.out
            have hO : Hid (IsTxs wr oa sl) := hO.out.below hB.out
            clear hE hW hB Bu3
            go_wp2_with fail
            refine (graphBegun_any _).mono ?_
            rintro e v1 ⟨rfl, c4⟩
            have Bv1 : Hid (Below V.heap.size V v1) := grow_trans Bw.out c4
            have hT : Hid (IsTxs v1 sa cl) := hT.out.below c4
            have hO : Hid (IsTxs v1 oa sl) := hO.out.below c4
            clear c4 Bw
            have p0' := ext_cell Bv1.out p0
            have p1' := ext_cell Bv1.out p1
            have p2' := ext_cell Bv1.out p2
            have q0' := ext_cell Bv1.out q0
            have q1' := ext_cell Bv1.out q1
            have q2' := ext_cell Bv1.out q2
            go_wp2_with fail
            refine (CS _ (HX.out.below (grow_trans g1.out Bv1.out)) (HY.out.below (grow_trans g1.out Bv1.out))).mono ?_
            rintro e v2 ⟨rfl, c5⟩
            have Bv2 : Hid (Below V.heap.size V v2) := grow_trans Bv1.out c5
            have hT : Hid (IsTxs v2 sa cl) := hT.out.below c5
            have hO : Hid (IsTxs v2 oa sl) := hO.out.below c5
            clear c5 Bv1 p0' p1' p2' q0' q1' q2'
            go_wp2_with fail
            refine (ST.out cl sa oa sc oc _ hC.out hT.out hO.out).mono ?_
            rintro e v3 ⟨rfl, c6⟩
            have R : Hid (Below w.heap.size w v3) := grow_trans g1.out (grow_trans Bv2.out c6)
            clear c6 Bv2 hT hO
            go_wp2
            go_ret
            exact ⟨by first | rfl | simp, R.out⟩
      · have hEE := E0.out hce
        subst hEE
        have hcb : (ce == 0) = false := by simpa using hce
        clear E0 EO hce
        go_wp2_with fail
        refine (SO.out _ (HL.out.below (grow_trans g1.out Bu1.out))).mono ?_
        rintro e u3 ⟨oa, oc, rfl, hO, c3⟩
        have Bu3 : Hid (Below V.heap.size V u3) := grow_trans Bu1.out c3
        have hT : Hid (IsTxs u3 sa cl) := hT.out.below c3
        have hO : Hid (IsTxs u3 oa sl) := hO
        have hE : Hid (IsEds u3 ea []) := hE.out.below c3
        clear c3 SO Bu1 hE
        go_wp2
        go_loopw [20] (fun i wr => i = .int .i64 0 ∧ wr = u3) (fun _ _ => 0)
        case atStart => exact ⟨rfl, rfl⟩
        case round =>
          obtain ⟨rfl, rfl⟩ := hrel
          go_wp2_with fail
          refine (graphBegun_any _).mono ?_
          rintro e v1 ⟨rfl, c4⟩
          have Bv1 : Hid (Below V.heap.size V v1) := grow_trans Bu3.out c4
          have hT : Hid (IsTxs v1 sa cl) := hT.out.below c4
          have hO : Hid (IsTxs v1 oa sl) := hO.out.below c4
          clear c4 Bu3
          have p0' := ext_cell Bv1.out p0
          have p1' := ext_cell Bv1.out p1
          have p2' := ext_cell Bv1.out p2
          have q0' := ext_cell Bv1.out q0
          have q1' := ext_cell Bv1.out q1
          have q2' := ext_cell Bv1.out q2
          go_wp2_with fail
          refine (CS _ (HX.out.below (grow_trans g1.out Bv1.out)) (HY.out.below (grow_trans g1.out Bv1.out))).mono ?_
          rintro e v2 ⟨rfl, c5⟩
          have Bv2 : Hid (Below V.heap.size V v2) := grow_trans Bv1.out c5
          have hT : Hid (IsTxs v2 sa cl) := hT.out.below c5
          have hO : Hid (IsTxs v2 oa sl) := hO.out.below c5
          clear c5 Bv1 p0' p1' p2' q0' q1' q2'
          go_wp2_with fail
          refine (ST.out cl sa oa sc oc _ hC.out hT.out hO.out).mono ?_
          rintro e v3 ⟨rfl, c6⟩
          have R : Hid (Below w.heap.size w v3) := grow_trans g1.out (grow_trans Bv2.out c6)
          clear c6 Bv2 hT hO
          go_wp2
          go_ret
          exact ⟨by first | rfl | simp, R.out⟩
    · have hxb := hB1.out cy
      have hcb' : (chkX y == 0) = false := by simpa using cy
      clear hB0 hB1
      subst hxb
      generalize chkX y = ye at *
      clear cy
      go_wp2_with fail
      refine (CK.out _ (HL.out.below (grow_trans g1.out B5.out))).mono ?_
      rintro e u1 ⟨rfl, c1⟩
      have Bu1 : Hid (Below V.heap.size V u1) := grow_trans B5.out c1
      have hE : Hid (IsEds u1 ea ed) := hE.out.below c1
      have hT : Hid (IsTxs u1 sa cl) := hT.out.below c1
      clear c1 CK B5
      by_cases hce : ce = 0
      · subst hce
        have EO1 := EO.out rfl
        clear E0
        go_wp2_with fail
        refine (EO1 _ (HL.out.below (grow_trans g1.out Bu1.out))).mono ?_
        rintro e u2 ⟨wa, wc, rfl, hW, c2⟩
        have Bu2 : Hid (Below V.heap.size V u2) := grow_trans Bu1.out c2
        have hE : Hid (IsEds u2 ea ed) := hE.out.below c2
        have hT : Hid (IsTxs u2 sa cl) := hT.out.below c2
        clear c2 EO EO1 Bu1
        go_wp2_with fail
        refine (SO.out _ (HL.out.below (grow_trans g1.out Bu2.out))).mono ?_
        rintro e u3 ⟨oa, oc, rfl, hO, c3⟩
        have Bu3 : Hid (Below V.heap.size V u3) := grow_trans Bu2.out c3
        have hT : Hid (IsTxs u3 sa cl) := hT.out.below c3
        have hO : Hid (IsTxs u3 oa sl) := hO
        have hE : Hid (IsEds u3 ea ed) := hE.out.below c3
        have hW : Hid (IsEds u3 wa ed) := hW.out.below c3
        clear c3 SO Bu2
        have hne : ((ed.length : Int) != (ed.length : Int)) = false := by simp
        have HEL : Hid (ed.length ≤ 64) := EL
        clear EL
        go_wp2
        go_loopw [20] (fun i wr => ∃ k : Nat, k ≤ ed.length ∧ i = .int .i64 k ∧ Hid (Below u3.heap.size u3 wr)) (fun i _ => ed.length - (intOf i).toNat)
        case atStart => exact ⟨0, Nat.zero_le _, rfl, Below.refl _ _⟩
        case round =>
          obtain ⟨k, hk, rfl, hB⟩ := hrel
          by_cases hlt : k < ed.length
          · obtain ⟨b, off, rfl, _, k0, k1⟩ := hE.out k hlt
            obtain ⟨b', off', rfl, _, k2, k3⟩ := hW.out k hlt
            have k0 := ext_cell hB.out k0
            have k1 := ext_cell hB.out k1
            have k2 := ext_cell hB.out k2
            have k3 := ext_cell hB.out k3
            generalize ed.getD k (0, 0) = pr at *
            obtain ⟨z1, z2⟩ := pr
            simp only at k0 k1 k2 k3
            have j1 : (0 : Int) ≤ (k : Int) := by omega
            have j2 : (k : Int) < (ed.length : Int) := by omega
            have j3 : ed.length ≤ 64 := HEL.out
            clear hE hW
            go_wp2_with fail
            go_quiet (fail)
            go_wp2
            go_roundw
            case rel => exact ⟨k + 1, by omega, by go_num, below_drewN hB.out _⟩
            case measure => simp [intOf]; omega
          · have Bw : Hid (Below V.heap.size V wr) := grow_trans Bu3.out hB.out
            have hT : Hid (IsTxs wr sa cl) := hT.out.below hB.out
            have hO : Hid (IsTxs wr oa sl) := hO.out.below hB.out
            clear hE hW hB Bu3
            go_wp2_with fail
            refine (graphBegun_any _).mono ?_
            rintro e v1 ⟨rfl, c4⟩
            have Bv1 : Hid (Below V.heap.size V v1) := grow_trans Bw.out c4
            have hT : Hid (IsTxs v1 sa cl) := hT.out.below c4
            have hO : Hid (IsTxs v1 oa sl) := hO.out.below c4
            clear c4 Bw
            go_wp2_with fail
            refine (ST.out cl sa oa sc oc _ hC.out hT.out hO.out).mono ?_
            rintro e v3 ⟨rfl, c6⟩
            have R : Hid (Below w.heap.size w v3) := grow_trans g1.out (grow_trans Bv1.out c6)
            clear c6 Bv1 hT hO
            go_wp2
            go_ret
            exact ⟨by first | rfl | simp, R.out⟩
      · have hEE := E0.out hce
        subst hEE
        have hcb : (ce == 0) = false := by simpa using hce
        clear E0 EO hce
        go_wp2_with fail
        refine (SO.out _ (HL.out.below (grow_trans g1.out Bu1.out))).mono ?_
        rintro e u3 ⟨oa, oc, rfl, hO, c3⟩
        have Bu3 : Hid (Below V.heap.size V u3) := grow_trans Bu1.out c3
        have hT : Hid (IsTxs u3 sa cl) := hT.out.below c3
        have hO : Hid (IsTxs u3 oa sl) := hO
        have hE : Hid (IsEds u3 ea []) := hE.out.below c3
        clear c3 SO Bu1 hE
        go_wp2
        go_loopw [20] (fun i wr => i = .int .i64 0 ∧ wr = u3) (fun _ _ => 0)
        case atStart => exact ⟨rfl, rfl⟩
        case round =>
          obtain ⟨rfl, rfl⟩ := hrel
          go_wp2_with fail
          refine (graphBegun_any _).mono ?_
          rintro e v1 ⟨rfl, c4⟩
          have Bv1 : Hid (Below V.heap.size V v1) := grow_trans Bu3.out c4
          have hT : Hid (IsTxs v1 sa cl) := hT.out.below c4
          have hO : Hid (IsTxs v1 oa sl) := hO.out.below c4
          clear c4 Bu3
          go_wp2_with fail
          refine (ST.out cl sa oa sc oc _ hC.out hT.out hO.out).mono ?_
          rintro e v3 ⟨rfl, c6⟩
          have R : Hid (Below w.heap.size w v3) := grow_trans g1.out (grow_trans Bv1.out c6)
          clear c6 Bv1 hT hO
          go_wp2
          go_ret
          exact ⟨by first | rfl | simp, R.out⟩
  · have hxe := hE2.out cx
    subst hxe
    have hxb := hB1.out cx
    subst hxb
    have hcb' : (chkX x == 0) = false := by simpa using cx
    clear hE1 hE2 hB0 hB1 CT
    generalize chkX x = ye at *
    clear cx
    go_wp2_with fail
    refine (CK.out _ (HL.out.below (grow_trans g1.out B4.out))).mono ?_
    rintro e u1 ⟨rfl, c1⟩
    have Bu1 : Hid (Below V.heap.size V u1) := grow_trans B4.out c1
    have hE : Hid (IsEds u1 ea ed) := hE.out.below c1
    have hT : Hid (IsTxs u1 sa cl) := hT.out.below c1
    clear c1 CK B4
    by_cases hce : ce = 0
    · subst hce
      have EO1 := EO.out rfl
      clear E0
      go_wp2_with fail
      refine (EO1 _ (HL.out.below (grow_trans g1.out Bu1.out))).mono ?_
      rintro e u2 ⟨wa, wc, rfl, hW, c2⟩
      have Bu2 : Hid (Below V.heap.size V u2) := grow_trans Bu1.out c2
      have hE : Hid (IsEds u2 ea ed) := hE.out.below c2
      have hT : Hid (IsTxs u2 sa cl) := hT.out.below c2
      clear c2 EO EO1 Bu1
      go_wp2_with fail
      refine (SO.out _ (HL.out.below (grow_trans g1.out Bu2.out))).mono ?_
      rintro e u3 ⟨oa, oc, rfl, hO, c3⟩
      have Bu3 : Hid (Below V.heap.size V u3) := grow_trans Bu2.out c3
      have hT : Hid (IsTxs u3 sa cl) := hT.out.below c3
      have hO : Hid (IsTxs u3 oa sl) := hO
      have hE : Hid (IsEds u3 ea ed) := hE.out.below c3
      have hW : Hid (IsEds u3 wa ed) := hW.out.below c3
      clear c3 SO Bu2
      have hne : ((ed.length : Int) != (ed.length : Int)) = false := by simp
      have HEL : Hid (ed.length ≤ 64) := EL
      clear EL
      go_wp2
      go_loopw [20] (fun i wr => ∃ k : Nat, k ≤ ed.length ∧ i = .int .i64 k ∧ Hid (Below u3.heap.size u3 wr)) (fun i _ => ed.length - (intOf i).toNat)
      case atStart => exact ⟨0, Nat.zero_le _, rfl, Below.refl _ _⟩
      case round =>
        obtain ⟨k, hk, rfl, hB⟩ := hrel
        by_cases hlt : k < ed.length
        · obtain ⟨b, off, rfl, _, k0, k1⟩ := hE.out k hlt
          obtain ⟨b', off', rfl, _, k2, k3⟩ := hW.out k hlt
          have k0 := ext_cell hB.out k0
          have k1 := ext_cell hB.out k1
          have k2 := ext_cell hB.out k2
          have k3 := ext_cell hB.out k3
          generalize ed.getD k (0, 0) = pr at *
          obtain ⟨z1, z2⟩ := pr
          simp only at k0 k1 k2 k3
          have j1 : (0 : Int) ≤ (k : Int) := by omega
          have j2 : (k : Int) < (ed.length : Int) := by omega
          have j3 : ed.length ≤ 64 := HEL.out
          clear hE hW
          go_wp2_with fail
          go_quiet (fail)
          go_wp2
          go_roundw
          case rel => exact ⟨k + 1, by omega, by go_num, below_drewN hB.out _⟩
          case measure => simp [intOf]; omega
        · have Bw : Hid (Below V.heap.size V wr) := grow_trans Bu3.out hB.out
          have hT : Hid (IsTxs wr sa cl) := hT.out.below hB.out
          have hO : Hid (IsTxs wr oa sl) := hO.out.below hB.out
          clear hE hW hB Bu3
          go_wp2_with fail
          refine (graphBegun_any _).mono ?_
          rintro e v1 ⟨rfl, c4⟩
          have Bv1 : Hid (Below V.heap.size V v1) := grow_trans Bw.out c4
          have hT : Hid (IsTxs v1 sa cl) := hT.out.below c4
          have hO : Hid (IsTxs v1 oa sl) := hO.out.below c4
          clear c4 Bw
          go_wp2_with fail
          refine (ST.out cl sa oa sc oc _ hC.out hT.out hO.out).mono ?_
          rintro e v3 ⟨rfl, c6⟩
          have R : Hid (Below w.heap.size w v3) := grow_trans g1.out (grow_trans Bv1.out c6)
          clear c6 Bv1 hT hO
          go_wp2
          go_ret
          exact ⟨by first | rfl | simp, R.out⟩
    · have hEE := E0.out hce
      subst hEE
      have hcb : (ce == 0) = false := by simpa using hce
      clear E0 EO hce
      go_wp2_with fail
      refine (SO.out _ (HL.out.below (grow_trans g1.out Bu1.out))).mono ?_
      rintro e u3 ⟨oa, oc, rfl, hO, c3⟩
      have Bu3 : Hid (Below V.heap.size V u3) := grow_trans Bu1.out c3
      have hT : Hid (IsTxs u3 sa cl) := hT.out.below c3
      have hO : Hid (IsTxs u3 oa sl) := hO
      have hE : Hid (IsEds u3 ea []) := hE.out.below c3
      clear c3 SO Bu1 hE
      go_wp2
      go_loopw [20] (fun i wr => i = .int .i64 0 ∧ wr = u3) (fun _ _ => 0)
      case atStart => exact ⟨rfl, rfl⟩
      case round =>
        obtain ⟨rfl, rfl⟩ := hrel
        go_wp2_with fail
        refine (graphBegun_any _).mono ?_
        rintro e v1 ⟨rfl, c4⟩
        have Bv1 : Hid (Below V.heap.size V v1) := grow_trans Bu3.out c4
        have hT : Hid (IsTxs v1 sa cl) := hT.out.below c4
        have hO : Hid (IsTxs v1 oa sl) := hO.out.below c4
        clear c4 Bu3
        go_wp2_with fail
        refine (ST.out cl sa oa sc oc _ hC.out hT.out hO.out).mono ?_
        rintro e v3 ⟨rfl, c6⟩
        have R : Hid (Below w.heap.size w v3) := grow_trans g1.out (grow_trans Bv1.out c6)
        clear c6 Bv1 hT hO
        go_wp2
        go_ret
        exact ⟨by first | rfl | simp, R.out⟩
end Go.Proofs.Ytikolifbljnokaa
