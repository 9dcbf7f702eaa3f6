/-
  RunMade walked: whoever always picks one that is ready comes to the end, and to the same as one after the other.
  Conditions: the arguments can be read.
-/
import Derived.Test.YtikolifbljnokaaRunF
import Derived.OwnWalk
import Derived.Laws.OwnMore
import Derived.WalkKit
import Derived.WalkSpells
import Derived.WalkLawsBesides
import Derived.ProofKit
import Derived.Deep.RegionHeld3
import Derived.BigQuiet
import Derived.Deep.AppendLies
namespace Go.Proofs.Ytikolifbljnokaa
open Go.RowKit

/-- Picks that were ready, one by one. -/
def Made (l : List TxA) (ps : List Int) : Prop := pkE l (d0 l) ps = 0 ∧ cnt (dnP (d0 l) ps) + ps.length = l.length
theorem made_nil (l : List TxA) : Made l [] := ⟨rfl, by show cnt (List.replicate l.length false) + 0 = _; rw [cnt_rep]; rfl⟩
theorem dnP_d0 (l : List TxA) (ps : List Int) : (dnP (d0 l) ps).length = l.length := by rw [dnP_len]; simp [d0]
theorem made_ready {l : List TxA} {ps : List Int} (h : Made l ps) (hlt : ps.length < l.length) : 0 < (nI (readyL l (dnP (d0 l) ps))).length := by
  have hc : 0 < cnt (dnP (d0 l) ps) := by have := h.2; omega
  obtain ⟨i, hi, hd⟩ := (dn_mem _).1 ((cnt_pos _).1 hc)
  rw [dnP_d0] at hi
  rw [nI_len]
  rcases Nat.eq_zero_or_pos (readyL l (dnP (d0 l) ps)).length with h0 | h0
  · have := (readyL_none l _).1 (List.length_eq_zero_iff.1 h0) i hi
    rw [hd] at this
    cases this
  · exact h0
theorem made_step {l : List TxA} {ps : List Int} (h : Made l ps) (j : Nat) (hj : j < (nI (readyL l (dnP (d0 l) ps))).length) : ∃ y : Nat, (nI (readyL l (dnP (d0 l) ps))).getD j 0 = (y : Int) ∧ y < l.length ∧ Made l (ps ++ [(y : Int)]) ∧ dnP (d0 l) (ps ++ [(y : Int)]) = (dnP (d0 l) ps).set y true := by
  rw [nI_len] at hj
  have hm : (readyL l (dnP (d0 l) ps))[j] ∈ readyL l (dnP (d0 l) ps) := List.getElem_mem hj
  obtain ⟨hy, hry⟩ := readyTo_mem.1 hm
  have hs : dnP (d0 l) (ps ++ [(((readyL l (dnP (d0 l) ps))[j] : Nat) : Int)]) = (dnP (d0 l) ps).set (readyL l (dnP (d0 l) ps))[j] true := by
    rw [dnP_snoc, Int.toNat_natCast]
  refine ⟨(readyL l (dnP (d0 l) ps))[j], by unfold nI; simp [List.getD, hj], hy, ⟨pkE_more h.1 hy hry, ?_⟩, hs⟩
  rw [hs, List.length_append]
  have := cnt_set (dnP (d0 l) ps) (readyL l (dnP (d0 l) ps))[j] (by rw [dnP_d0]; exact hy) (readyX_iff.1 hry).1
  have h2 := h.2
  show _ + (ps.length + 1) = _
  omega
theorem made_all {s : List Int} {l : List TxA} {ps : List Int} (h : Made l ps) (hl : ps.length = l.length) (h8 : s.length = 8) (hC : chkL l = 0) : ckE s l ps = 0 := by
  have hl8 := chkL_small hC
  have hc : cnt (dnP (d0 l) ps) = 0 := by have := h.2; omega
  have hpr : prE s l ps = 0 := by
    unfold prE lenR mnE
    rw [if_pos h8, hC, if_neg (by omega)]
    rfl
  unfold ckE
  rw [if_pos hpr, if_pos h.1]
  refine leftE_zero.2 fun i hi => ?_
  cases hd : dn (dnP (d0 l) ps) i with
  | true => rfl
  | false =>
    have := (cnt_pos _).2 ((dn_mem _).2 ⟨i, hi, hd⟩)
    omega
theorem rdE_d0 {l : List TxA} (hC : chkL l = 0) (ps : List Int) : rdE l (dnP (d0 l) ps) = 0 := by
  unfold rdE dE
  rw [hC, dnP_d0]
  simp [firstNZ]
theorem own_bools_only {w : World} {base g n : Nat} {bs : List Bool} (h : w.ownsRow base 4 1 (.slice (some ⟨g, 0, none⟩) n n) n (bs.map Value.bool)) (b c : Nat) (z : Int) (hc : w.cell? ⟨b, c, none⟩ = some (.int .i64 z)) : b ≠ g := by
  rintro rfl
  have hl : bs.length = n := by have := h.1; simpa using this
  rcases h.2 with ⟨h0, _⟩ | ⟨g', cap', cur, he, hb, hg, hnc, hcm, hcs, htake⟩
  · cases h0
  · injection he with e1 e2 e3
    injection e1 with e1
    injection e1 with e1 _ _
    subst e1 e3
    have hcur : cur.toList = bs.map Value.bool := by
      rw [← htake, List.take_of_length_le (by simp; omega)]
    by_cases hlt : c < n
    · have h2 := h.cells (g := b) rfl c (.bool (bs.getD c false)) (by simp [List.getD, hl, hlt])
      rw [add_none] at h2
      simp only [Nat.zero_add] at h2
      rw [hc] at h2
      cases h2
    · have : w.cell? ⟨b, c, none⟩ = none := by
        simp [World.cell?, hg]
        omega
      rw [this] at hc
      cases hc

variable (sa : Option Addr) (sc : Nat) (s : List Int) (la : Option Addr) (lc : Nat) (l : List TxA) (pa : Option Addr) (pc : Nat) (zs : List Int)

set_option maxRecDepth 100000 in
set_option maxHeartbeats 8000000 in
theorem runMade_walk (w : World) (hs : IsInts w sa s) (hl : IsTxs w la l) (hp : IsInts w pa zs) (hzw : ∀ z ∈ zs, (Lit.int .i64 z).wf = true) :
    Calls Try.prog 10 #[.slice sa s.length sc, .slice la l.length lc, .slice pa zs.length pc] w fun e w' => e = .returned (.bool true) ∧ Below w.heap.size w w' := by
  obtain ⟨i0, hi, hz0, hz1, hz2⟩ := info_parts Try.info4
  obtain ⟨i1, hj', hy0, hy1, hy2⟩ := info_parts Try.info3
  by_cases hser : serE s l = 0
  · have hser' := hser
    unfold serE at hser'
    have hz := firstNZ_zero _ hser'
    have hC : chkL l = 0 := by simpa using hz 1
    have h8 : s.length = 8 := by
      have h := hz 0
      unfold lenE at h
      by_cases c : s.length = 8
      · exact c
      · simp [c] at h
    have hl8 := chkL_small hC
    have hel : (serEnd s l).length = 8 := by rw [serEnd_len]; exact h8
    have hrl : (serRes s l).length = l.length := by rw [serRes_len]
    have SR : Hid (Calls Try.prog 22 #[.slice sa s.length sc, .slice la l.length lc] w fun e w'' => ∃ ea ec xa xc, e = .returned (.tuple #[.slice ea 8 ec, .slice xa l.length xc, .int .i64 0]) ∧ Hid (IsInts w'' ea (serEnd s l)) ∧ Hid (IsRes w'' xa (serRes s l)) ∧ Below w.heap.size w w'') := by
      have h := serial_any sa la sc lc s l w hs hl
      rw [show sEnd s l = serEnd s l from if_pos hser, show sRes s l = serRes s l from if_pos hser, hser, hel, hrl] at h
      exact h.mono fun e w'' ⟨ea, ec, xa, xc, h1, hso, h3⟩ => ⟨ea, ec, xa, xc, h1, hso.ints, hso.res, h3⟩
    have SS : Hid (∀ (a a' : Option Addr) (c c' : Nat) (w' : World), IsInts w' a (serEnd s l) → IsInts w' a' (serEnd s l) → Calls Try.prog 23 #[.slice a 8 c, .slice a' 8 c'] w' fun e w'' => e = .returned (.bool true) ∧ Below w'.heap.size w' w'') := fun a a' c c' => sameStore a a' c c' (serEnd s l) hel
    have SQ : Hid (∀ (a a' : Option Addr) (c c' : Nat) (w' : World), IsRes w' a (serRes s l) → IsRes w' a' (serRes s l) → Calls Try.prog 24 #[.slice a l.length c, .slice a' l.length c'] w' fun e w'' => e = .returned (.bool true) ∧ Below w'.heap.size w' w'') := fun a a' c c' w' q1 q2 => by
      have h := sameResults_eq (serRes s l) a a' c c' w' (by rw [hrl]; omega) (vals_few hser) q1 q2
      rw [hrl] at h
      exact h
    have RN : Hid (∀ (ps : List Int) (a : Option Addr) (c : Nat) (w' : World), Made l ps → ps.length = l.length → Below w.heap.size w w' → IsInts w' a ps → Calls Try.prog 31 #[.slice sa s.length sc, .slice la l.length lc, .slice a ps.length c] w' fun e w'' => ∃ ea ec ra rc, e = .returned (.tuple #[.slice ea 8 ec, .slice ra l.length rc, .int .i64 0]) ∧ Hid (IsInts w'' ea (serEnd s l)) ∧ Hid (IsRes w'' ra (serRes s l)) ∧ Below w'.heap.size w' w'') := fun ps a c w' h1 h2 h3 h4 => run_ok sa sc s la lc l a c ps w' (hs.below h3) (hl.below h3) h4 (made_all h1 h2 h8 hC)
    have CRD : Hid (∀ (ps : List Int) (g : Nat) (w' : World), Below w.heap.size w w' → IsBools w' (some ⟨g, 0, none⟩) (dnP (d0 l) ps) → Calls Try.prog 26 #[.slice la l.length lc, .slice (some ⟨g, 0, none⟩) l.length l.length] w' fun e w'' => ∃ a c, e = .returned (.tuple #[.slice a (nI (readyL l (dnP (d0 l) ps))).length c, .int .i64 0]) ∧ Hid (IsInts w'' a (nI (readyL l (dnP (d0 l) ps)))) ∧ Below w'.heap.size w' w'') := fun ps g w' h1 h2 => by
      have h := ready_any la lc l (some ⟨g, 0, none⟩) l.length (dnP (d0 l) ps) w' (hl.below h1) h2
      rw [show rdL l (dnP (d0 l) ps) = readyL l (dnP (d0 l) ps) from if_pos (rdE_d0 hC ps), rdE_d0 hC ps, dnP_d0] at h
      exact h
    have HR8 : Hid (∀ ps, (nI (readyL l (dnP (d0 l) ps))).length ≤ 8) := fun ps => by rw [nI_len]; exact Nat.le_trans (readyTo_len l _ l.length) hl8
    have HZ : Hid (IsInts w pa zs) := hp
    have HW : Hid (∀ k, k < zs.length → (Lit.int .i64 (zs.getD k 0)).wf = true) := fun k hk => hzw _ (by simp [List.getD, hk])
    have HM : Hid ((madeCells (Value.bool false).cells (l.length * 1)).toList = (dnP (d0 l) []).map Value.bool) := made_boolsR l.length hl8
    generalize serEnd s l = E at *
    generalize serRes s l = RR at *
    clear hs hl hp hzw hser hser' hz hC h8 hel hrl
    go_enter Try.func10, Try.ntmps10
    go_wp2_with fail
    refine SR.out.mono ?_
    clear SR
    rintro e w1 ⟨ea, ec, ra, rc, rfl, hEa, hRa, b1⟩
    have B1 : Hid (Below w.heap.size w w1) := b1
    clear b1
    go_upto_region 5 with (first | (at_make; refine wpList_make_full _ rfl _ _ 55 rfl w1.heap.size 4 i0 (.bool false) 1 Try.underlying55 hi hz0 hz1 .i64 .i64 _ _ l.length rfl rfl rfl rfl (by rw [hz2]; omega) (by unfold maxLen; omega) (by simp) ?_; intro w2 hown hgrow) | fail)
    rw [HM.out] at hown
    have U2 := Below.grown (Below.refl w1.heap.size w1) hgrow (by omega) (fun j hj => by cases hj)
    have hg1 : w1.heap.size < w2.heap.size := by
      have := (hown.lt w1.heap.size (by simp [Value.ownBlock])).2
      exact this
    have hm0 : Hid (w2.ownsRow w1.heap.size 4 1 (.slice (some ⟨w1.heap.size, 0, none⟩) l.length l.length) l.length ((dnP (d0 l) []).map Value.bool)) := hown
    have U2' : Hid (Below w1.heap.size w1 w2) := U2
    clear hown hgrow HM U2
    generalize hgg : w1.heap.size = g at *
    obtain ⟨G, hGe⟩ : ∃ G : Nat, G = w2.heap.size := ⟨_, rfl⟩
    have hgG : g < G := by omega
    have G2 : Hid (G ≤ w2.heap.size) := Nat.le_of_eq hGe
    clear hGe hg1
    have HGG : Hid (w1.heap.size = g) := hgg
    clear hgg
    go_wp2
    go_loopw [11, 12, 13, 14, 15] (fun v i _ _ _ wr => ∃ (k : Nat) (ps : List Int), k ≤ l.length ∧ i = .int .i64 k ∧ Hid (ps.length = k) ∧ Hid (Made l ps) ∧ Hid (wr.ownsRow g 4 1 (.slice (some ⟨g, 0, none⟩) l.length l.length) l.length ((dnP (d0 l) ps).map Value.bool)) ∧ Hid (wr.ownsRow G 3 1 v k (ps.map (Value.int .i64))) ∧ Hid (Below g w1 wr) ∧ Hid (G ≤ wr.heap.size)) (fun _ i _ _ _ _ => l.length - (intOf i).toNat)
    case atStart => exact ⟨0, [], Nat.zero_le _, rfl, rfl, made_nil l, hm0, World.ownsRow_nil _ _ _ _, U2', G2⟩
    case round =>
      clear hm0 U2' G2
      obtain ⟨k, ps, hk, rfl, HK, HMd, hd, hpk, hB, hsz⟩ := hrel
      have BW : Hid (Below w.heap.size w wr) := by
        have h := hB.out
        rw [← HGG.out] at h
        exact grow_trans B1.out h
      by_cases hlt : k < l.length
      · have j1 : (k : Int) < (l.length : Int) := by omega
        have j2 : (k : Int) < 8 := by omega
        have j0 : (0 : Int) ≤ (k : Int) := by omega
        go_wp2_with fail
        refine (CRD.out ps g _ BW.out (bools_of_owns hd.out)).mono ?_
        rintro e u1 ⟨ra0, rc0, rfl, hR0, c1⟩
        have hd1 : Hid (u1.ownsRow g 4 1 (.slice (some ⟨g, 0, none⟩) l.length l.length) l.length ((dnP (d0 l) ps).map Value.bool)) := owns_below hd.out c1
        have hp1 : Hid (u1.ownsRow G 3 1 u11 k (ps.map (Value.int .i64))) := owns_below hpk.out c1
        have bu1 : Hid (Below g w1 u1) := hB.out.trans (c1.mono (by have := hsz.out; omega))
        have su1 : Hid (G ≤ u1.heap.size) := Nat.le_trans hsz.out c1.size
        have bw1 : Hid (Below w.heap.size w u1) := grow_trans BW.out c1
        have hR80 := HR8.out ps
        have hRp := made_ready HMd.out (by rw [HK.out]; exact hlt)
        generalize hRd : nI (readyL l (dnP (d0 l) ps)) = R at hR0 hR80 hRp
        have HRdef : Hid (nI (readyL l (dnP (d0 l) ps)) = R) := hRd
        have hR : Hid (IsInts u1 ra0 R) := hR0
        have hRb : ((R.length : Int) == 0) = false := by rw [beq_eq_false_iff_ne]; omega
        clear hRd hR0 c1 hd hpk hB hsz BW CRD
        by_cases hzl : k < zs.length
        · obtain ⟨zb, zo, hze, _, cz⟩ := HZ.out k hzl
          subst hze
          have czu := ext_cell bw1.out cz
          have hwf := HW.out k hzl
          clear cz
          generalize zs.getD k 0 = c at *
          have j3 : (k : Int) < (zs.length : Int) := by omega
          go_wp2_with fail
          refine (choose_any c R.length _ hwf (by omega) (by omega)).mono ?_
          rintro e u1' ⟨j, hj0, rfl, hww⟩
          have hww' := hww.symm
          clear hww
          subst hww'
          have hj : j < (nI (readyL l (dnP (d0 l) ps))).length := by rw [HRdef.out]; exact hj0
          clear czu hwf bw1
          obtain ⟨y, hyj, hyl, hmade, hset⟩ := made_step HMd.out j hj
          rw [HRdef.out] at hyj
          obtain ⟨rb, ro, hre, _, cj⟩ := hR.out j (by rw [HRdef.out] at hj; exact hj)
          subst hre
          rw [hyj] at cj

          have hbg : rb ≠ g := own_bools_only hd1.out rb _ _ cj
          have hdl : (dnP (d0 l) ps).length = l.length := by rw [dnP_len]; simp [d0]
          have q3 := bool_cell hd1.out y (by rw [hdl]; exact hyl)
          have q4 : u1.frozen? ⟨g, y, none⟩ = false := hd1.out.frozenAt y
          have D2 : Hid ((u1.setCell ⟨g, y, none⟩ (.bool true)).ownsRow g 4 1 (.slice (some ⟨g, 0, none⟩) l.length l.length) l.length ((dnP (d0 l) (ps ++ [(y : Int)])).map Value.bool)) := by
            have h := (hd1.out.stored y (.bool true)).1
            rw [hset, List.map_set]
            exact h
          have P2 : Hid ((u1.setCell ⟨g, y, none⟩ (.bool true)).ownsRow G 3 1 u11 k (ps.map (Value.int .i64))) := hp1.out.kept (grown_one _ g y _) (by
            cases ho : u11.ownBlock with
            | none => exact .inl rfl
            | some b => refine .inr (fun e => ?_); injection e with e; have := (hp1.out.lt b ho).1; omega)
          have B2 : Hid (Below g w1 (u1.setCell ⟨g, y, none⟩ (.bool true))) := bu1.out.setCell (Nat.le_refl _) _
          have S2 : Hid (G ≤ (u1.setCell ⟨g, y, none⟩ (.bool true)).heap.size) := by show G ≤ _; simp; exact su1.out
          have cj2 := (grown_one u1 g y (.bool true)).cell cj (by simpa using hbg)
          have HMd2 : Hid (Made l (ps ++ [(y : Int)])) := hmade
          generalize (dnP (d0 l) ps).getD y false = old at *
          clear hdl hbg hset hmade hyj hd1 hp1 bu1 su1 HMd hR
          have k1 : (0 : Int) ≤ (j : Int) := by omega
          have k2 : (j : Int) < (R.length : Int) := by rw [HRdef.out] at hj; omega
          have k3 : (0 : Int) ≤ (y : Int) := by omega
          have k4 : (y : Int) < (l.length : Int) := by omega
          have k5 : ¬ (y : Int) < 0 := by omega
          have k6 : ¬ (l.length : Int) ≤ (y : Int) := by omega
          go_upto_region 18 with fail
          clear cj q3 q4
          generalize u1.setCell ⟨g, y, none⟩ (.bool true) = u2 at *
          have hs2 : G ≤ u2.heap.size := S2.out
          have hpn : (ps.map (Value.int .i64)).length = k := by rw [List.length_map]; exact HK.out
          clear hpn
          go_wp2_with (first
            | (at_builtin; refine wpList_append_own _ rfl _ _ 22 rfl G 3 i1 (.int .i64 0) 1 8 Try.underlying22 hj' hy0 hy1 hy2 rfl (by decide) _ _ _ rfl (P2.out.alloc _) ⟨u2.heap.size, 0, none⟩ 1 1 [.int .i64 y] rfl rfl (news_at _ _ _ (by simp)) (ints_oneCell .i64 [(y : Int)]) (by unfold maxLen; omega) (by omega) (by simp; omega) ?_; intro v' w6 hown' hgrow _)
            | go_in)
          have RP : Hid (w6.ownsRow G 3 1 v' (k + 1) ((ps ++ [(y : Int)]).map (Value.int .i64))) := by
            show World.ownsRow _ _ _ _ _ _ _
            rw [List.map_append]
            exact hown'
          have RD : Hid (w6.ownsRow g 4 1 (.slice (some ⟨g, 0, none⟩) l.length l.length) l.length ((dnP (d0 l) (ps ++ [(y : Int)])).map Value.bool)) := (D2.out.alloc _).kept hgrow (.inr (fun e => by have := (P2.out.lt g e.symm).1; omega))
          have RB : Hid (Below g w1 w6) := (B2.out.alloc (by omega) _).grown hgrow (by simp; omega) (fun j hj => by have := (P2.out.lt j hj).1; omega)
          have RS : Hid (G ≤ w6.heap.size) := by
            have h := hgrow.size
            simp at h
            show G ≤ _
            omega
          have RK : Hid ((ps ++ [(y : Int)]).length = k + 1) := by show _ = _; rw [List.length_append, HK.out]; rfl
          clear hown' hgrow D2 P2 B2 S2 hs2 cj2
          go_wp2
          go_roundw
          case rel => exact ⟨k + 1, _, by omega, by go_num, RK, HMd2, RD, RP, RB, RS⟩
          case measure => simp [intOf]; omega
        · have j3 : ¬ (k : Int) < (zs.length : Int) := by omega
          clear bw1
          have hj : 0 < (nI (readyL l (dnP (d0 l) ps))).length := by rw [HRdef.out]; exact hRp
          obtain ⟨y, hyj, hyl, hmade, hset⟩ := made_step HMd.out 0 hj
          rw [HRdef.out] at hyj
          obtain ⟨rb, ro, hre, _, cj⟩ := hR.out 0 (by rw [HRdef.out] at hj; exact hj)
          subst hre
          rw [hyj] at cj
          rw [Nat.add_zero] at cj
          have hbg : rb ≠ g := own_bools_only hd1.out rb _ _ cj
          have hdl : (dnP (d0 l) ps).length = l.length := by rw [dnP_len]; simp [d0]
          have q3 := bool_cell hd1.out y (by rw [hdl]; exact hyl)
          have q4 : u1.frozen? ⟨g, y, none⟩ = false := hd1.out.frozenAt y
          have D2 : Hid ((u1.setCell ⟨g, y, none⟩ (.bool true)).ownsRow g 4 1 (.slice (some ⟨g, 0, none⟩) l.length l.length) l.length ((dnP (d0 l) (ps ++ [(y : Int)])).map Value.bool)) := by
            have h := (hd1.out.stored y (.bool true)).1
            rw [hset, List.map_set]
            exact h
          have P2 : Hid ((u1.setCell ⟨g, y, none⟩ (.bool true)).ownsRow G 3 1 u11 k (ps.map (Value.int .i64))) := hp1.out.kept (grown_one _ g y _) (by
            cases ho : u11.ownBlock with
            | none => exact .inl rfl
            | some b => refine .inr (fun e => ?_); injection e with e; have := (hp1.out.lt b ho).1; omega)
          have B2 : Hid (Below g w1 (u1.setCell ⟨g, y, none⟩ (.bool true))) := bu1.out.setCell (Nat.le_refl _) _
          have S2 : Hid (G ≤ (u1.setCell ⟨g, y, none⟩ (.bool true)).heap.size) := by show G ≤ _; simp; exact su1.out
          have cj2 := (grown_one u1 g y (.bool true)).cell cj (by simpa using hbg)
          have HMd2 : Hid (Made l (ps ++ [(y : Int)])) := hmade
          generalize (dnP (d0 l) ps).getD y false = old at *
          clear hdl hbg hset hmade hyj hd1 hp1 bu1 su1 HMd hR
          have k1 : (0 : Int) ≤ (0 : Int) := by omega
          have k2 : (0 : Int) < (R.length : Int) := by rw [HRdef.out] at hj; omega
          have k3 : (0 : Int) ≤ (y : Int) := by omega
          have k4 : (y : Int) < (l.length : Int) := by omega
          have k5 : ¬ (y : Int) < 0 := by omega
          have k6 : ¬ (l.length : Int) ≤ (y : Int) := by omega
          go_upto_region 18 with fail
          clear cj q3 q4
          generalize u1.setCell ⟨g, y, none⟩ (.bool true) = u2 at *
          have hs2 : G ≤ u2.heap.size := S2.out
          have hpn : (ps.map (Value.int .i64)).length = k := by rw [List.length_map]; exact HK.out
          clear hpn
          go_wp2_with (first
            | (at_builtin; refine wpList_append_own _ rfl _ _ 22 rfl G 3 i1 (.int .i64 0) 1 8 Try.underlying22 hj' hy0 hy1 hy2 rfl (by decide) _ _ _ rfl (P2.out.alloc _) ⟨u2.heap.size, 0, none⟩ 1 1 [.int .i64 y] rfl rfl (news_at _ _ _ (by simp)) (ints_oneCell .i64 [(y : Int)]) (by unfold maxLen; omega) (by omega) (by simp; omega) ?_; intro v' w6 hown' hgrow _)
            | go_in)
          have RP : Hid (w6.ownsRow G 3 1 v' (k + 1) ((ps ++ [(y : Int)]).map (Value.int .i64))) := by
            show World.ownsRow _ _ _ _ _ _ _
            rw [List.map_append]
            exact hown'
          have RD : Hid (w6.ownsRow g 4 1 (.slice (some ⟨g, 0, none⟩) l.length l.length) l.length ((dnP (d0 l) (ps ++ [(y : Int)])).map Value.bool)) := (D2.out.alloc _).kept hgrow (.inr (fun e => by have := (P2.out.lt g e.symm).1; omega))
          have RB : Hid (Below g w1 w6) := (B2.out.alloc (by omega) _).grown hgrow (by simp; omega) (fun j hj => by have := (P2.out.lt j hj).1; omega)
          have RS : Hid (G ≤ w6.heap.size) := by
            have h := hgrow.size
            simp at h
            show G ≤ _
            omega
          have RK : Hid ((ps ++ [(y : Int)]).length = k + 1) := by show _ = _; rw [List.length_append, HK.out]; rfl
          clear hown' hgrow D2 P2 B2 S2 hs2 cj2
          go_wp2
          go_roundw
          case rel => exact ⟨k + 1, _, by omega, by go_num, RK, HMd2, RD, RP, RB, RS⟩
          case measure => simp [intOf]; omega
      · have hkk : k = l.length := by omega
        subst hkk
        have HPS : Hid (IsInts wr (some ⟨0, 0, none⟩) [] ∨ True) := .inr trivial
        obtain ⟨pa', pc', hv, hPi⟩ := ints_of_owns hpk.out
        subst hv
        have HPi : Hid (IsInts wr pa' ps) := hPi
        have hE1 : Hid (IsInts wr ea E) := by
          have h := hB.out
          rw [← HGG.out] at h
          exact hEa.out.below h
        have hR1 : Hid (IsRes wr ra RR) := by
          have h := hB.out
          rw [← HGG.out] at h
          exact hRa.out.below h
        clear HPS hPi hd hpk hB hsz hEa hRa CRD
        go_wp2_with fail
        refine (RN.out ps pa' pc' _ HMd.out HK.out BW.out HPi.out).mono ?_
        clear RN
        rintro e w3 ⟨fa, fc, qa, qc, rfl, hFa, hQa, b3⟩
        have hE3 : Hid (IsInts w3 ea E) := hE1.out.below b3
        have hR3 : Hid (IsRes w3 ra RR) := hR1.out.below b3
        have B3 : Hid (Below w.heap.size w w3) := grow_trans BW.out b3
        clear b3 hE1 hR1 BW HPi
        go_wp2_with fail
        refine (runBegun_any _).mono ?_
        rintro e w4 ⟨rfl, b4⟩
        have hE4 : Hid (IsInts w4 ea E) := hE3.out.below b4
        have hR4 : Hid (IsRes w4 ra RR) := hR3.out.below b4
        have hF4 : Hid (IsInts w4 fa E) := hFa.out.below b4
        have hQ4 : Hid (IsRes w4 qa RR) := hQa.out.below b4
        have B4 : Hid (Below w.heap.size w w4) := grow_trans B3.out b4
        clear b4 hE3 hR3 hFa hQa B3
        go_wp2_with fail
        refine (SS.out _ _ _ _ _ hF4.out hE4.out).mono ?_
        clear SS
        rintro e w5 ⟨rfl, b5⟩
        have hR5 : Hid (IsRes w5 ra RR) := hR4.out.below b5
        have hQ5 : Hid (IsRes w5 qa RR) := hQ4.out.below b5
        have B5 : Hid (Below w.heap.size w w5) := grow_trans B4.out b5
        clear b5 hE4 hF4 hR4 hQ4 B4
        go_wp2_with fail
        refine (SQ.out _ _ _ _ _ hQ5.out hR5.out).mono ?_
        clear SQ
        rintro e w6 ⟨rfl, b6⟩
        have B6 : Hid (Below w.heap.size w w6) := grow_trans B5.out b6
        clear b6 hR5 hQ5 B5
        go_wp2
        go_ret
        exact ⟨rfl, B6.out⟩
  · have hb : (serE s l != 0) = true := by simpa using hser
    have SR : Hid (Calls Try.prog 22 #[.slice sa s.length sc, .slice la l.length lc] w fun e w'' => ∃ v1 v2, e = .returned (.tuple #[v1, v2, .int .i64 (serE s l)]) ∧ Below w.heap.size w w'') := (serial_any sa la sc lc s l w hs hl).mono fun e w'' ⟨ea, ec, xa, xc, h1, hso, h3⟩ => ⟨_, _, h1, h3⟩
    generalize serE s l = se at *
    clear hs hl hp hser hzw
    go_enter Try.func10, Try.ntmps10
    go_wp2_with fail
    refine SR.out.mono ?_
    clear SR
    rintro e w1 ⟨v1, v2, rfl, b1⟩
    have B1 : Hid (Below w.heap.size w w1) := b1
    clear b1
    go_wp2_with fail
    refine (runBegun_any _).mono ?_
    rintro e v3 ⟨rfl, b8⟩
    have R : Hid (Below w.heap.size w v3) := grow_trans B1.out b8
    clear b8 B1
    go_wp2
    go_ret
    exact ⟨rfl, R.out⟩
end Go.Proofs.Ytikolifbljnokaa
