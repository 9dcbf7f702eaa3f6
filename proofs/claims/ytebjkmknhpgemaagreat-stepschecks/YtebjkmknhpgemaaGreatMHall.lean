/-
  What a step writes.
  Conditions: those that each theorem states.
-/
import Derived.Test.YtebjkmknhpgemaaGreatOwnD
import Derived.Test.YtebjkmknhpgemaaGreatStoreD
import Derived.WalkKit
import Derived.WalkSpells
import Derived.WalkLawsBesides
import Derived.Defers
import Derived.Recover
import Derived.ProofKit
import Derived.Deep.RegionHeld
import Derived.Deep.RegionHeld3
import Derived.Deep.RegionLaw
import Derived.Deep.DeepCutAuto
import Derived.Deep.QuietTactic
import Derived.BigQuiet
import Derived.Maps.AppendAt
import Derived.Lib.SliceRun
import Derived.Deep.AppendLies
import Derived.Test.YtebjkmknhpgemaaGreatHallM
import Derived.Test.YtebjkmknhpgemaaGreatHallG
import Derived.Laws.AppendOwnNone
import Derived.Test.YtebjkmknhpgemaaGreatClos
import Derived.Test.YtebjkmknhpgemaaGreatHallB
import Derived.Test.YtebjkmknhpgemaaGreatStepsA
namespace Go.Proofs.YtebjkmknhpgemaaGreat
open Go.RowKit

variable {w0 w : World} {C h p : Nat} {la : Option Addr} {lc rc tc vc : Nat} {sa ra wa va : Option Addr} {sc : Nat} {l : List TxA} {sh : Nat} {S : SA} {g0 c1 c2 c3 hi gr gw gv : Nat} {Br Bw Bv : Nat → Nat}

set_option maxRecDepth 100000 in
set_option maxHeartbeats 4000000 in
theorem write_at (D : DoAt w0 w C h p la lc rc tc vc sa ra wa va sc l sh S g0 c1 c2 c3 hi gr gw gv Br Bw Bv) {n k : Nat} (hn : n < l.length) (hk : k < sh) :
    Calls Tryz.prog 70 #[.pointer (some ⟨h, 0, none⟩), .int .i64 n, .int .i64 k] w fun e w' => e = .returned (.tuple #[]) ∧ DoAt w0 w' C h p la lc rc tc vc sa ra wa va sc l sh (writeX sh l S n k) g0 c1 c2 c3 hi gr gw gv Br Bw Bv ∧ Below C w w' := by
  have h1 := D.own.h1
  have h2 := D.own.h2
  have h3 := D.own.h3
  have h4 := D.own.h4
  have h5 := D.own.h5
  have hl8 := D.l8
  have hs4 := D.s4
  have hs0 := D.s0
  have W1O := D.own.setWr hn hk
  have W1B : Below C w (w.setCell ⟨Bw n, k, none⟩ (.bool true)) := (Below.refl _ _).setCell (by obtain ⟨b1, _⟩ := D.own.wr.b n hn hs0; show C ≤ Bw n; omega) _
  have D1 : Hid (DoAt w0 (w.setCell ⟨Bw n, k, none⟩ (.bool true)) C h p la lc rc tc vc sa ra wa va sc l sh { S with wr := setB S.wr n k } g0 c1 c2 c3 hi gr gw gv Br Bw Bv) := D.to W1B W1O
  have B1 : Hid (Below C w (w.setCell ⟨Bw n, k, none⟩ (.bool true))) := W1B
  have HG : Hid (Good (gX l n)) := D.good hn
  have HE : chkTx (gX l n).rs (gX l n).gs (gX l n).ss = 0 := chkL_in D.ck n hn
  have HSX : Hid (writeX sh l S n k = { S with wr := setB S.wr n k, st := putSh sh k S.st (keysOf (gX l n).ss) (madeOf (S.vs.getD n []) (gX l n).gs (gX l n).ss) }) := rfl
  obtain ⟨ewa, _, _⟩ := D.own.wr.ad (by omega)
  obtain ⟨a1, cc, r0, r1', _, _⟩ := D.own.wr.o n hn
  have r1 := r1' hs0
  subst r1
  have r2 := D.own.wr.c n k hn hk
  have r3 := D.own.wr.f n k hn hs0
  have x0 := D.h0
  have x2 := D.h3
  rw [ewa] at x2
  have HF : Hid (Form sh l S) := D.own.f
  have hZL : (S.vs.getD n []).length = (gX l n).rs.length := HF.out.vn n hn
  have hRE : runE (gX l n).rs (gX l n).gs (gX l n).ss (S.vs.getD n []) = 0 := by
    show firstNZ _ = _
    rw [firstNZ, if_pos HE, firstNZ]
    have : countE (gX l n).rs (S.vs.getD n []) = 0 := if_pos hZL
    rw [this]; rfl
  clear W1B W1O D h1 h2 h3 h4 h5 ewa
  generalize writeX sh l S n k = S9 at *
  go_enter Tryz.func70, Tryz.ntmps70
  go_upto_region 1 with fail
  clear x0 x2 r0 r2 r3
  generalize (w.setCell ⟨Bw n, k, none⟩ (.bool true)) = W at *
  obtain ⟨b, off, ela, q0, q1, q2, hx⟩ := D1.out.reads hn
  have x0 := D1.out.h0
  have x1 := D1.out.p1
  have x4 := D1.out.h4
  rw [ela] at x1
  obtain ⟨f1, _, _⟩ := D1.out.own.vs.ad (by omega)
  rw [f1] at x4
  obtain ⟨a', c', v0, v1, v2, _⟩ := D1.out.own.vs.o n hn
  have v3 := D1.out.own.vs.c n
  have v0 : W.cell? ⟨gv, n, none⟩ = some (.slice a' (gX l n).rs.length c') := v0
  rw [← hZL] at v0
  have HZ : IsInts W a' (S.vs.getD n []) := fun i hi => by
    have hi' : i < (gX l n).rs.length := by rw [← hZL]; exact hi
    exact ⟨Bv n, 0, v1 (by show 0 < (gX l n).rs.length; omega), World.block_lt_of_cell? W ⟨Bv n, i, none⟩ (v3 i hn hi'), by rw [Nat.zero_add]; exact v3 i hn hi'⟩
  have CR : Hid (∀ w', Below W.heap.size W w' → Calls Tryz.prog 81 #[.agg #[.slice (gX l n).ra (gX l n).rs.length (gX l n).rc, .slice (gX l n).ga (gX l n).gs.length (gX l n).gc, .slice (gX l n).sa (gX l n).ss.length (gX l n).sc], .slice a' (S.vs.getD n []).length c'] w' (fun e w'' => ∃ va vc ma mc, e = .returned (.tuple #[.agg #[.bool (allG (S.vs.getD n []) (gX l n).gs), .slice va (S.vs.getD n []).length vc], .slice ma (madeOf (S.vs.getD n []) (gX l n).gs (gX l n).ss).length mc, .int .i64 0]) ∧ IsAt w'.heap.size w''.heap.size w'' va (S.vs.getD n []) ∧ IsAt w'.heap.size w''.heap.size w'' ma (madeOf (S.vs.getD n []) (gX l n).gs (gX l n).ss) ∧ Below w'.heap.size w' w'')) := fun w' hb => by
    have h := txnRun_any (gX l n).ra (gX l n).ga (gX l n).sa (gX l n).rc (gX l n).gc (gX l n).sc (gX l n).rs (gX l n).gs (gX l n).ss a' c' (S.vs.getD n []) w' (hx.below hb) (HZ.below hb) v2
    have e1 : runD (gX l n).rs (gX l n).gs (gX l n).ss (S.vs.getD n []) = allG (S.vs.getD n []) (gX l n).gs := if_pos hRE
    have e2 : runV (gX l n).rs (gX l n).gs (gX l n).ss (S.vs.getD n []) = S.vs.getD n [] := if_pos hRE
    have e3 : runM (gX l n).rs (gX l n).gs (gX l n).ss (S.vs.getD n []) = madeOf (S.vs.getD n []) (gX l n).gs (gX l n).ss := if_pos hRE
    rw [e1, e2, e3, hRE] at h
    exact h
  have hML : (madeOf (S.vs.getD n []) (gX l n).gs (gX l n).ss).length ≤ (gX l n).ss.length := by unfold madeOf; split <;> simp [allS]
  have hs3 : (gX l n).ss.length ≤ 3 := (many_small _ _ _ (chk_parts HE).1).2.2.1
  have HML : Hid ((madeOf (S.vs.getD n []) (gX l n).gs (gX l n).ss).length ≤ (gX l n).ss.length) := hML
  clear hx v1 v2 v3 HZ hRE HE hZL f1 ela HF
  generalize hM : madeOf (S.vs.getD n []) (gX l n).gs (gX l n).ss = M at *
  clear hM
  generalize hZ : S.vs.getD n [] = Z at *
  clear hZ
  generalize allG Z (gX l n).gs = DD at *
  have HKS : Hid (∀ w', Below W.heap.size W w' → w'.cell? ⟨h, 0, none⟩ = some (.pointer (some ⟨p, 0, none⟩)) ∧ w'.cell? ⟨h, 4, none⟩ = some (.slice (some ⟨gv, 0, none⟩) l.length vc) ∧ w'.cell? ⟨p, 1, none⟩ = some (.slice (some ⟨b, off, none⟩) l.length lc) ∧ w'.cell? ⟨b, off + n * 3, none⟩ = some (.slice (gX l n).ra (gX l n).rs.length (gX l n).rc) ∧ w'.cell? ⟨b, off + n * 3 + 1, none⟩ = some (.slice (gX l n).ga (gX l n).gs.length (gX l n).gc) ∧ w'.cell? ⟨b, off + n * 3 + 2, none⟩ = some (.slice (gX l n).sa (gX l n).ss.length (gX l n).sc) ∧ w'.cell? ⟨gv, n, none⟩ = some (.slice a' Z.length c') ∧ Hid (Below W.heap.size W w')) := fun w' hb => ⟨ext_cell hb x0, ext_cell hb x4, ext_cell hb x1, ext_cell hb q0, ext_cell hb q1, ext_cell hb q2, ext_cell hb v0, hb⟩
  go_cut [7, 8] (fun m e wx => ∃ ma mc, m = .slice ma M.length mc ∧ e = .int .i64 0 ∧ IsAt W.heap.size wx.heap.size wx ma M ∧ Below W.heap.size W wx)
  case first =>
    clear x0 x1 x4 q0 q1 q2 v0 HML hML hs3 HG HSX D1 B1
    go_region_held3 (fun w' => w'.cell? ⟨h, 0, none⟩ = some (.pointer (some ⟨p, 0, none⟩)) ∧ w'.cell? ⟨h, 4, none⟩ = some (.slice (some ⟨gv, 0, none⟩) l.length vc) ∧ w'.cell? ⟨p, 1, none⟩ = some (.slice (some ⟨b, off, none⟩) l.length lc) ∧ w'.cell? ⟨b, off + n * 3, none⟩ = some (.slice (gX l n).ra (gX l n).rs.length (gX l n).rc) ∧ w'.cell? ⟨b, off + n * 3 + 1, none⟩ = some (.slice (gX l n).ga (gX l n).gs.length (gX l n).gc) ∧ w'.cell? ⟨b, off + n * 3 + 2, none⟩ = some (.slice (gX l n).sa (gX l n).ss.length (gX l n).sc) ∧ w'.cell? ⟨gv, n, none⟩ = some (.slice a' Z.length c') ∧ Hid (Below W.heap.size W w')) ((refine HKS.out _ ?_; go_split_ands; repeat (first | assumption | exact Below.refl _ _ | exact Hid.out (by assumption) | refine grow_drew ?_ | refine grow_alloc ?_ _ | refine grow_set ?_ (by first | exact Nat.le_refl _ | omega | (simp; done) | (simp at *; omega)) _ | refine grow_trans ?_ (by assumption))))
      (first
        | (go_at_call 81; refine (CR.out _ ?_).mono ?_; (go_split_ands; exact Hid.out (by assumption)); rintro e wb ⟨va', vc', ma, mc, rfl, hva, hma, hbb⟩; have hwb := size_le hbb; (first | (obtain ⟨t0, t1, tf⟩ := fresh_res (V := W) hbb rfl) | skip)))
    all_goals (go_wp2_with fail; go_meet)
    all_goals (
      have e2 : W.heap.size ≤ wb.heap.size := by first | exact hwb | (have h := hwb; simp at h; omega)
      go_split_ands
      first
        | exact ⟨ma, mc, rfl, rfl, (hma.below (grow_alloc (Below.refl _ _) _)).widen (by first | exact Nat.le_refl _ | (simp; done)) (by simp), Hid.out (by assumption)⟩
        | exact ⟨ma, mc, rfl, rfl, ((hma.set ⟨_, 0, none⟩ _ (.inl (by first | (simp; done) | omega))).set ⟨_, 1, none⟩ _ (.inl (by first | (simp; done) | omega))).widen (by first | exact Nat.le_refl _ | (simp; done)) (by simp), Hid.out (by assumption)⟩)
  case rest =>
    obtain ⟨ma, mc, rfl, rfl, hma, hbc⟩ := hcut
    go_wp2_with fail
    refine (leave_zero [0] _ 1 _ (by simp) rfl (errs1 _ _ _ (by simp))).mono ?_
    rintro e W2 ⟨rfl, rfl⟩
    have U : Below wc.heap.size wc (wc.alloc (.cells #[.int .i64 0] 30)) := grow_alloc (Below.refl _ _) _
    have UV : Below W.heap.size W (wc.alloc (.cells #[.int .i64 0] 30)) := grow_trans hbc U
    have hMA : Hid (IsAt W.heap.size wc.heap.size (wc.alloc (.cells #[.int .i64 0] 30)) ma M) := hma.below U
    have D2 : Hid (DoAt w0 (wc.alloc (.cells #[.int .i64 0] 30)) C h p la lc rc tc vc sa ra wa va sc l sh { S with wr := setB S.wr n k, st := putSh sh k S.st ((keysOf (gX l n).ss).take 0) (M.take 0) } g0 c1 c2 c3 hi gr gw gv Br Bw Bv) := D1.out.below UV
    have B2 : Hid (Below C w (wc.alloc (.cells #[.int .i64 0] 30))) := B1.out.trans (UV.mono D1.out.cs)
    have gW : Hid (g0 < W.heap.size) := ((D1.out.own.st.e (by decide)).2.2.1)
    clear U UV hma hbc HKS CR x0 x1 x4 q0 q1 q2 v0 D1 B1
    generalize wc.heap.size = hiM at *
    generalize (wc.alloc (.cells #[.int .i64 0] 30)) = W3 at *
    go_wp2
    go_loopw [9, 10, 11, 50] (fun _ _ _ i wr => ∃ j : Nat, j ≤ M.length ∧ i = .int .i64 j ∧ Hid (DoAt w0 wr C h p la lc rc tc vc sa ra wa va sc l sh { S with wr := setB S.wr n k, st := putSh sh k S.st ((keysOf (gX l n).ss).take j) (M.take j) } g0 c1 c2 c3 hi gr gw gv Br Bw Bv) ∧ Hid (IsAt W.heap.size hiM wr ma M) ∧ Hid (Below C w wr)) (fun _ _ _ i _ => M.length - (intOf i).toNat)
    case atStart => exact ⟨0, Nat.zero_le _, rfl, D2, hMA, B2⟩
    case round =>
      obtain ⟨j, hj, rfl, hD, hA, hB⟩ := hrel
      clear D2 hMA B2
      by_cases hlt : j < M.length
      · have i1 : (j : Int) < (M.length : Int) := by omega
        have hjs : j < (gX l n).ss.length := by omega
        obtain ⟨bt, ot, ela, _, _, t2, hx⟩ := hD.out.reads hn
        obtain ⟨b', off', ea, _, k0, _⟩ := hx.s j hjs
        clear hx
        obtain ⟨bm, om, em, _, _, m0⟩ := hA.out j hlt
        have hkl : j < (keysOf (gX l n).ss).length := by rw [keys_len]; exact hjs
        have k1 : wr.cell? ⟨b', off' + j * 6, none⟩ = some (.int .i64 ((keysOf (gX l n).ss).getD j 0)) := by rw [keys_get _ j hjs]; exact k0
        have HT : (keysOf (gX l n).ss).getD j 0 ∈ keysOf (gX l n).ss := by
          rw [List.getD_eq_getElem?_getD, List.getElem?_eq_getElem hkl]
          exact List.getElem_mem hkl
        obtain ⟨hz, hz'⟩ := HG.out.s _ HT
        have HP : Hid (putSh sh k S.st ((keysOf (gX l n).ss).take (j + 1)) (M.take (j + 1)) = if ((keysOf (gX l n).ss).getD j 0).toNat % sh = k then (putSh sh k S.st ((keysOf (gX l n).ss).take j) (M.take j)).set ((keysOf (gX l n).ss).getD j 0).toNat (M.getD j 0) else putSh sh k S.st ((keysOf (gX l n).ss).take j) (M.take j)) := putSh_take sh k _ _ _ j hkl hlt
        clear k0 HT
        generalize (keysOf (gX l n).ss).getD j 0 = z at *
        obtain ⟨c, rfl⟩ := Int.eq_ofNat_of_zero_le hz
        have hc8 : c < 8 := by omega
        have CL : Hid (∀ wx, DoAt w0 wx C h p la lc rc tc vc sa ra wa va sc l sh { S with wr := setB S.wr n k, st := putSh sh k S.st ((keysOf (gX l n).ss).take j) (M.take j) } g0 c1 c2 c3 hi gr gw gv Br Bw Bv → Calls Tryz.prog 113 #[.pointer (some ⟨h, 0, none⟩), .int .i64 c, .int .i64 k] wx fun e w' => e = .returned (.bool (c % sh == k)) ∧ Below wx.heap.size wx w') := fun wx hd => lies_at wx h p sh hd.h0 hd.p0 hs0 hs4 hc8
        have y0 := hD.out.h0
        have y1 := hD.out.p1
        rw [ela] at y1
        rw [ea] at t2
        subst em
        clear ela ea hz hz'
        generalize M.getD j 0 = uu at *
        go_wp2_with fail
        refine (CL.out wr hD.out).mono ?_
        rintro e w1 ⟨rfl, hb1⟩
        have E1 : Hid (DoAt w0 w1 C h p la lc rc tc vc sa ra wa va sc l sh { S with wr := setB S.wr n k, st := putSh sh k S.st ((keysOf (gX l n).ss).take j) (M.take j) } g0 c1 c2 c3 hi gr gw gv Br Bw Bv) := hD.out.below hb1
        have F1 : Hid (Below C w w1) := hB.out.trans (hb1.mono hD.out.cs)
        have A1 : Hid (IsAt W.heap.size hiM w1 (some ⟨bm, om, none⟩) M) := hA.out.below hb1
        clear CL hb1 hD hB hA k1 m0 t2 y0 y1
        generalize hq : (c % sh == k) = q at *
        cases q
        · have E2 : Hid (DoAt w0 w1 C h p la lc rc tc vc sa ra wa va sc l sh { S with wr := setB S.wr n k, st := putSh sh k S.st ((keysOf (gX l n).ss).take (j + 1)) (M.take (j + 1)) } g0 c1 c2 c3 hi gr gw gv Br Bw Bv) := by
            have e := HP.out
            rw [if_neg (by simp at hq; simpa using hq)] at e
            rw [e]; exact E1.out
          clear E1 HP
          go_wp2
          go_roundw
          case rel => exact ⟨j + 1, by omega, by go_num, E2, A1, F1⟩
          case measure => simp [intOf]; omega
        · have y0 := E1.out.h0
          have y1 := E1.out.h1
          obtain ⟨e1, e2, _, e4, e5⟩ := E1.out.own.st.e (by decide)
          have z0 := e4 c hc8
          have z1 := e5 c
          rw [e1] at y1
          have E2 : Hid (DoAt w0 (w1.setCell ⟨g0, c, none⟩ (.int .i64 uu)) C h p la lc rc tc vc sa ra wa va sc l sh { S with wr := setB S.wr n k, st := putSh sh k S.st ((keysOf (gX l n).ss).take (j + 1)) (M.take (j + 1)) } g0 c1 c2 c3 hi gr gw gv Br Bw Bv ∧ Below C w (w1.setCell ⟨g0, c, none⟩ (.int .i64 uu)) ∧ IsAt W.heap.size hiM (w1.setCell ⟨g0, c, none⟩ (.int .i64 uu)) (some ⟨bm, om, none⟩) M) := by
            have e := HP.out
            rw [if_pos (by simpa using hq)] at e
            rw [e]
            exact ⟨E1.out.to ((Below.refl _ _).setCell (by show C ≤ g0; exact e2) _) (E1.out.own.setS hc8 uu), F1.out.setCell (by show C ≤ g0; exact e2) _, A1.out.set ⟨g0, c, none⟩ _ (.inl gW.out)⟩
          generalize Value.int .i64 ((putSh sh k S.st ((keysOf (gX l n).ss).take j) (M.take j)).getD c 0) = old at *
          clear E1 HP e4 e5 e1 A1 F1
          go_wp2
          go_roundw
          case rel => exact ⟨j + 1, by omega, by go_num, E2.out.1, E2.out.2.2, E2.out.2.1⟩
          case measure => simp [intOf]; omega
      · have hjN : j = M.length := by omega
        subst hjN
        have FX : Hid (DoAt w0 wr C h p la lc rc tc vc sa ra wa va sc l sh S9 g0 c1 c2 c3 hi gr gw gv Br Bw Bv) := by
          rw [HSX.out]
          have h := hD.out
          rw [List.take_length, putSh_cut sh k _ _ _ (by rw [keys_len]; exact HML.out)] at h
          exact h
        clear hD hA
        go_wp2
        go_end0
        exact ⟨rfl, FX.out, hB.out⟩
end Go.Proofs.YtebjkmknhpgemaaGreat

namespace Go.Proofs.YtebjkmknhpgemaaGreat
open Go.RowKit

theorem stE_plan {m : Int} {l : List TxA} {S : SA} (h : stE m l S = 0) : planE m l = 0 := by
  unfold stE at h
  by_cases c : planE m l = 0
  · exact c
  · rw [if_neg c] at h; exact h
theorem stE_zero {m : Int} {l : List TxA} {S : SA} (h : stE m l S = 0) : ∃ sh : Nat, m = sh ∧ 0 < sh ∧ sh ≤ 4 ∧ chkL l = 0 ∧ planE m l = 0 ∧ formB sh l S = true ∧ truthB sh l S = true := by
  have hp := stE_plan h
  have hz := planE_zero hp
  refine ⟨m.toNat, by omega, by omega, by omega, hz.2.2, hp, ?_⟩
  unfold stE at h
  rw [if_pos hp] at h
  cases h1 : formB m.toNat l S <;> cases h2 : truthB m.toNat l S <;> simp_all
theorem stE_bad {sh : Nat} {l : List TxA} {S : SA} (hp : planE (sh : Int) l = 0) (h : formB sh l S = false ∨ truthB sh l S = false) : stE sh l S = 1 := by
  unfold stE
  rw [if_pos hp]
  have e : ((sh : Int)).toNat = sh := by omega
  rw [e]
  rcases h with h | h <;> rw [h] <;> simp


theorem news_steps {w : World} {ad : Addr} {L : List (Nat × Nat × Nat)} (h : IsSteps w (some ad) L) : ∀ j u, (cellsT L)[j]? = some u → w.cell? (ad.add j) = some u := by
  intro j u hj
  have hlt : j < L.length * 3 := by rw [← cellsT_len]; exact (List.getElem?_eq_some_iff.1 hj).1
  have hi : j / 3 < L.length := by omega
  have hr : j % 3 < 3 := Nat.mod_lt _ (by decide)
  have ej : j = j / 3 * 3 + j % 3 := by omega
  obtain ⟨b, off, ha, hb, c0, c1, c2⟩ := h (j / 3) hi
  obtain ⟨g0, g1, g2⟩ := cellsT_get L (j / 3) hi
  injection ha with ha
  subst ha
  rw [ej] at hj
  rw [add_none, ej]
  generalize j / 3 = i at *
  generalize j % 3 = r at *
  match r, hr with
  | 0, _ => rw [Nat.add_zero, g0] at hj; injection hj with hj; subst hj; simpa using c0
  | 1, _ => rw [g1] at hj; injection hj with hj; subst hj; simpa [Nat.add_assoc] using c1
  | 2, _ => rw [g2] at hj; injection hj with hj; subst hj; simpa [Nat.add_assoc] using c2

variable (la : Option Addr) (lc : Nat) (l : List TxA) (sa ra wa va : Option Addr) (sc rc tc vc : Nat) (S : SA)

/-- A hall, where there is no error. -/
theorem hall_ok (sh : Nat) (w : World) (hl : IsTxs w la l) (hs : Sta w sa ra wa va S) (hE : stE sh l S = 0) :
    Calls Tryz.prog 49 #[.agg #[.int .i64 (sh : Int), .slice la l.length lc], .agg #[.slice sa S.st.length sc, .slice ra S.rd.length rc, .slice wa S.wr.length tc, .slice va S.vs.length vc]] w fun e w' => ∃ h A, e = .returned (.pointer (some ⟨h, 0, none⟩)) ∧ Hall w' h sh l S A ∧ w.heap.size ≤ h ∧ h < w'.heap.size ∧ (∀ j, w'.frozen? ⟨h, j, none⟩ = false) ∧ w.heap.size ≤ A.p ∧ A.p < h ∧ A.la = la ∧ Below w.heap.size w w' := by
  obtain ⟨sh', e, _, _, _, hp, hf, ht⟩ := stE_zero hE
  have e' : sh' = sh := by omega
  subst e'
  refine (hallOf_ok la lc l sa ra wa va sc rc tc vc S sh' w hl hs hp (formB_iff.1 hf).st hf).mono ?_
  rintro e w' ⟨⟨_, h, A, rfl, H, h1, h2, h3, h4, h5, h6⟩ | ⟨h, _⟩, hb⟩
  · exact ⟨h, A, rfl, H, h1, h2, h3, h4, h5, h6, hb⟩
  · rw [ht] at h; cases h
/-- Its error. -/
theorem hall_pan (m : Int) (w : World) (hl : IsTxs w la l) (hs : Sta w sa ra wa va S) (hE : ¬ stE m l S = 0) :
    Calls Tryz.prog 49 #[.agg #[.int .i64 m, .slice la l.length lc], .agg #[.slice sa S.st.length sc, .slice ra S.rd.length rc, .slice wa S.wr.length tc, .slice va S.vs.length vc]] w fun e w' => e = .panicked [{ v := .iface 30 (.int .i64 (stE m l S)), recovered := false }] ∧ Below w.heap.size w w' := by
  by_cases hp : planE m l = 0
  · obtain ⟨sh, rfl⟩ : ∃ sh : Nat, m = sh := ⟨m.toNat, by have := planE_zero hp; omega⟩
    by_cases h8 : S.st.length = 8
    · cases hf : formB sh l S with
      | false =>
        rw [stE_bad hp (.inl hf)]
        exact hallOf_pan2 la lc l sa ra wa va sc rc tc vc S sh w hl hs hp h8 hf
      | true =>
        cases ht : truthB sh l S with
        | false =>
          rw [stE_bad hp (.inr ht)]
          refine (hallOf_ok la lc l sa ra wa va sc rc tc vc S sh w hl hs hp h8 hf).mono ?_
          rintro e w' ⟨⟨h, _⟩ | ⟨_, rfl⟩, hb⟩
          · rw [ht] at h; cases h
          · exact ⟨rfl, hb⟩
        | true =>
          refine absurd ?_ hE
          unfold stE
          have e : ((sh : Int)).toNat = sh := by omega
          rw [if_pos hp, e, hf, ht]
          rfl
    · have hf : formB sh l S = false := form_bad fun F => h8 F.st
      have e2 : lenE S.st = 1 := if_neg h8
      have e3 : firstNZ [planE (sh : Int) l, lenE S.st] = 1 := by rw [hp, e2]; rfl
      rw [stE_bad hp (.inl hf)]
      have hh := hallOf_pan1 la lc l sa ra wa va sc rc tc vc S sh w hl (by rw [e3]; decide)
      rw [e3] at hh
      exact hh
  · have e1 : stE m l S = planE m l := if_neg hp
    have e3 : firstNZ [planE m l, lenE S.st] = planE m l := by unfold firstNZ; rw [if_neg hp]
    rw [e1]
    have hh := hallOf_pan1 la lc l sa ra wa va sc rc tc vc S m w hl (by rw [e3]; exact hp)
    rw [e3] at hh
    exact hh


set_option maxRecDepth 100000 in
set_option maxHeartbeats 1000000 in
theorem over1_pan (m : Int) (p q : Nat) (w : World) (p0 : w.cell? ⟨p, 0, none⟩ = some (.int .i64 m)) (p1 : w.cell? ⟨p, 1, none⟩ = some (.slice la l.length lc)) (q0 : w.cell? ⟨q, 0, none⟩ = some (.slice sa S.st.length sc)) (q1 : w.cell? ⟨q, 1, none⟩ = some (.slice ra S.rd.length rc)) (q2 : w.cell? ⟨q, 2, none⟩ = some (.slice wa S.wr.length tc)) (q3 : w.cell? ⟨q, 3, none⟩ = some (.slice va S.vs.length vc)) (hl : IsTxs w la l) (hs : Sta w sa ra wa va S) (hE : ¬ stE m l S = 0) :
    Calls Tryz.prog 48 #[.pointer (some ⟨p, 0, none⟩), .pointer (some ⟨q, 0, none⟩)] w fun e w' => e = .panicked [{ v := .iface 30 (.int .i64 (stE m l S)), recovered := false }] ∧ Below w.heap.size w w' := by
  have CH : Hid (Calls Tryz.prog 49 #[.agg #[.int .i64 m, .slice la l.length lc], .agg #[.slice sa S.st.length sc, .slice ra S.rd.length rc, .slice wa S.wr.length tc, .slice va S.vs.length vc]] w fun e w' => e = .panicked [{ v := .iface 30 (.int .i64 (stE m l S)), recovered := false }] ∧ Below w.heap.size w w') := hall_pan la lc l sa ra wa va sc rc tc vc S m w hl hs hE
  clear hl hs hE
  go_enter Tryz.func48, Tryz.ntmps48
  go_wp2_with fail
  refine CH.out.mono ?_
  rintro e w1 ⟨rfl, hb⟩
  exact ⟨rfl, rfl, hb⟩

set_option maxRecDepth 100000 in
set_option maxHeartbeats 1000000 in
theorem check1_pan (m : Int) (p q : Nat) (w : World) (p0 : w.cell? ⟨p, 0, none⟩ = some (.int .i64 m)) (p1 : w.cell? ⟨p, 1, none⟩ = some (.slice la l.length lc)) (q0 : w.cell? ⟨q, 0, none⟩ = some (.slice sa S.st.length sc)) (q1 : w.cell? ⟨q, 1, none⟩ = some (.slice ra S.rd.length rc)) (q2 : w.cell? ⟨q, 2, none⟩ = some (.slice wa S.wr.length tc)) (q3 : w.cell? ⟨q, 3, none⟩ = some (.slice va S.vs.length vc)) (hl : IsTxs w la l) (hs : Sta w sa ra wa va S) (hE : ¬ stE m l S = 0) :
    Calls Tryz.prog 60 #[.pointer (some ⟨p, 0, none⟩), .pointer (some ⟨q, 0, none⟩)] w fun e w' => e = .panicked [{ v := .iface 30 (.int .i64 (stE m l S)), recovered := false }] ∧ Below w.heap.size w w' := by
  have CH : Hid (Calls Tryz.prog 49 #[.agg #[.int .i64 m, .slice la l.length lc], .agg #[.slice sa S.st.length sc, .slice ra S.rd.length rc, .slice wa S.wr.length tc, .slice va S.vs.length vc]] w fun e w' => e = .panicked [{ v := .iface 30 (.int .i64 (stE m l S)), recovered := false }] ∧ Below w.heap.size w w') := hall_pan la lc l sa ra wa va sc rc tc vc S m w hl hs hE
  clear hl hs hE
  go_enter Tryz.func60, Tryz.ntmps60
  go_wp2_with fail
  refine CH.out.mono ?_
  rintro e w1 ⟨rfl, hb⟩
  exact ⟨rfl, rfl, hb⟩

set_option maxRecDepth 100000 in
set_option maxHeartbeats 1000000 in
theorem can1_pan (m : Int) (p q : Nat) (w : World) (p0 : w.cell? ⟨p, 0, none⟩ = some (.int .i64 m)) (p1 : w.cell? ⟨p, 1, none⟩ = some (.slice la l.length lc)) (q0 : w.cell? ⟨q, 0, none⟩ = some (.slice sa S.st.length sc)) (q1 : w.cell? ⟨q, 1, none⟩ = some (.slice ra S.rd.length rc)) (q2 : w.cell? ⟨q, 2, none⟩ = some (.slice wa S.wr.length tc)) (q3 : w.cell? ⟨q, 3, none⟩ = some (.slice va S.vs.length vc)) (hl : IsTxs w la l) (hs : Sta w sa ra wa va S) (hE : ¬ stE m l S = 0) :
    Calls Tryz.prog 63 #[.pointer (some ⟨p, 0, none⟩), .pointer (some ⟨q, 0, none⟩)] w fun e w' => e = .panicked [{ v := .iface 30 (.int .i64 (stE m l S)), recovered := false }] ∧ Below w.heap.size w w' := by
  have CH : Hid (Calls Tryz.prog 49 #[.agg #[.int .i64 m, .slice la l.length lc], .agg #[.slice sa S.st.length sc, .slice ra S.rd.length rc, .slice wa S.wr.length tc, .slice va S.vs.length vc]] w fun e w' => e = .panicked [{ v := .iface 30 (.int .i64 (stE m l S)), recovered := false }] ∧ Below w.heap.size w w') := hall_pan la lc l sa ra wa va sc rc tc vc S m w hl hs hE
  clear hl hs hE
  go_enter Tryz.func63, Tryz.ntmps63
  go_wp2_with fail
  refine CH.out.mono ?_
  rintro e w1 ⟨rfl, hb⟩
  exact ⟨rfl, rfl, hb⟩

set_option maxRecDepth 100000 in
set_option maxHeartbeats 1000000 in
theorem check1_ok (sh : Nat) (p q : Nat) (w : World) (p0 : w.cell? ⟨p, 0, none⟩ = some (.int .i64 (sh : Int))) (p1 : w.cell? ⟨p, 1, none⟩ = some (.slice la l.length lc)) (q0 : w.cell? ⟨q, 0, none⟩ = some (.slice sa S.st.length sc)) (q1 : w.cell? ⟨q, 1, none⟩ = some (.slice ra S.rd.length rc)) (q2 : w.cell? ⟨q, 2, none⟩ = some (.slice wa S.wr.length tc)) (q3 : w.cell? ⟨q, 3, none⟩ = some (.slice va S.vs.length vc)) (hl : IsTxs w la l) (hs : Sta w sa ra wa va S) (hE : stE sh l S = 0) :
    Calls Tryz.prog 60 #[.pointer (some ⟨p, 0, none⟩), .pointer (some ⟨q, 0, none⟩)] w fun e w' => ∃ a, e = .returned (.pointer a) ∧ Below w.heap.size w w' := by
  have CH : Hid (Calls Tryz.prog 49 #[.agg #[.int .i64 (sh : Int), .slice la l.length lc], .agg #[.slice sa S.st.length sc, .slice ra S.rd.length rc, .slice wa S.wr.length tc, .slice va S.vs.length vc]] w fun e w' => ∃ h A, e = .returned (.pointer (some ⟨h, 0, none⟩)) ∧ Hall w' h sh l S A ∧ w.heap.size ≤ h ∧ h < w'.heap.size ∧ (∀ j, w'.frozen? ⟨h, j, none⟩ = false) ∧ w.heap.size ≤ A.p ∧ A.p < h ∧ A.la = la ∧ Below w.heap.size w w') := hall_ok la lc l sa ra wa va sc rc tc vc S sh w hl hs hE
  clear hl hs hE
  go_enter Tryz.func60, Tryz.ntmps60
  go_wp2_with fail
  refine CH.out.mono ?_
  rintro e w1 ⟨h, A, rfl, _, _, _, _, _, _, _, hb⟩
  have B1 : Hid (Below w.heap.size w w1) := hb
  clear hb p0 p1 q0 q1 q2 q3
  go_wp2
  go_ret
  exact ⟨_, rfl, B1.out⟩

theorem overTo_step (sh : Nat) (l : List TxA) (S : SA) (n : Nat) : overTo sh l S (n + 1) = (overTo sh l S n && (List.range sh).all (goneB sh l S n)) := all_to _ n

set_option maxRecDepth 100000 in
set_option maxHeartbeats 2000000 in
theorem over1_ok (sh : Nat) (p q : Nat) (w : World) (p0 : w.cell? ⟨p, 0, none⟩ = some (.int .i64 (sh : Int))) (p1 : w.cell? ⟨p, 1, none⟩ = some (.slice la l.length lc)) (q0 : w.cell? ⟨q, 0, none⟩ = some (.slice sa S.st.length sc)) (q1 : w.cell? ⟨q, 1, none⟩ = some (.slice ra S.rd.length rc)) (q2 : w.cell? ⟨q, 2, none⟩ = some (.slice wa S.wr.length tc)) (q3 : w.cell? ⟨q, 3, none⟩ = some (.slice va S.vs.length vc)) (hl : IsTxs w la l) (hs : Sta w sa ra wa va S) (hE : stE sh l S = 0) :
    Calls Tryz.prog 48 #[.pointer (some ⟨p, 0, none⟩), .pointer (some ⟨q, 0, none⟩)] w fun e w' => e = .returned (.bool (overB sh l S)) ∧ Below w.heap.size w w' := by
  have CH : Hid (Calls Tryz.prog 49 #[.agg #[.int .i64 (sh : Int), .slice la l.length lc], .agg #[.slice sa S.st.length sc, .slice ra S.rd.length rc, .slice wa S.wr.length tc, .slice va S.vs.length vc]] w fun e w' => ∃ h A, e = .returned (.pointer (some ⟨h, 0, none⟩)) ∧ Hall w' h sh l S A ∧ w.heap.size ≤ h ∧ h < w'.heap.size ∧ (∀ j, w'.frozen? ⟨h, j, none⟩ = false) ∧ w.heap.size ≤ A.p ∧ A.p < h ∧ A.la = la ∧ Below w.heap.size w w') := hall_ok la lc l sa ra wa va sc rc tc vc S sh w hl hs hE
  have HF : Hid (overB sh l S = overTo sh l S l.length) := rfl
  have HS : Hid (∀ n, overTo sh l S (n + 1) = (overTo sh l S n && (List.range sh).all (goneB sh l S n))) := overTo_step sh l S
  have HB : Hid (∀ n k, n < l.length → k < sh → goneB sh l S n k = false → overB sh l S = false) := fun n k hn hk e => all_stop hn (all_stop hk e)
  have H0 : Hid (overTo sh l S 0 = true) := rfl
  clear hl hs hE
  generalize overB sh l S = R at *
  generalize hot : overTo sh l S = ot at *
  clear hot
  go_enter Tryz.func48, Tryz.ntmps48
  go_wp2_with fail
  refine CH.out.mono ?_
  rintro e w1 ⟨h, A, rfl, hH, _, _, _, _, _, _, hb⟩
  have B1 : Hid (Below w.heap.size w w1) := hb
  have HH : Hid (Hall w1 h sh l S A) := hH
  have x0 := hH.h0
  have z0 := hH.p0
  have z1 := hH.p1
  have hl8 := hH.l8
  have hs4 := hH.s4
  clear hb p0 p1 q0 q1 q2 q3 hH CH
  go_wp2
  go_loop [17] (fun i => ∃ n : Nat, n ≤ l.length ∧ i = .int .i64 n ∧ Hid (ot n = true)) (fun i => l.length - (intOf i).toNat)
  case atStart => exact ⟨0, Nat.zero_le _, rfl, H0⟩
  case round =>
    obtain ⟨n, hn', rfl, hall⟩ := hrel
    by_cases hlt : n < l.length
    · have i1 : (n : Int) < (l.length : Int) := by omega
      have HN : Hid ((List.range sh).all (goneB sh l S n) = true → ot (n + 1) = true) := fun e => by rw [HS.out, hall.out, e]; rfl
      clear hall
      go_wp2
      go_loop [27] (fun i => ∃ k : Nat, k ≤ sh ∧ i = .int .i64 k ∧ Hid ((List.range k).all (goneB sh l S n) = true)) (fun i => sh - (intOf i).toNat)
      case atStart => exact ⟨0, Nat.zero_le _, rfl, rfl⟩
      case round =>
        obtain ⟨k, hk', rfl, hall⟩ := hrel
        by_cases hlt2 : k < sh
        · have j1 : (k : Int) < (sh : Int) := by omega
          have HT : Hid ((List.range (k + 1)).all (goneB sh l S n) = goneB sh l S n k) := by show _ = _; rw [all_to, hall.out, Bool.true_and]
          have HBk : Hid (goneB sh l S n k = false → R = false) := HB.out n k hlt hlt2
          have CG : Hid (Calls Tryz.prog 50 #[.pointer (some ⟨h, 0, none⟩), .int .i64 n, .int .i64 k] w1 fun e w' => e = .returned (.bool (goneB sh l S n k)) ∧ w' = w1) := gone_any HH.out hlt hlt2
          clear hall
          generalize hg : goneB sh l S n k = G at HT HBk CG
          clear hg
          cases G
          · have HR : Hid (R = false) := HBk.out rfl
            clear HT HBk
            go_wp2_with fail
            refine CG.out.mono ?_
            rintro e w2 ⟨rfl, hw2⟩
            subst hw2
            clear CG
            go_wp2
            go_ret
            exact ⟨by rw [HR.out]; rfl, B1.out⟩
          · clear HBk
            go_wp2_with fail
            refine CG.out.mono ?_
            rintro e w2 ⟨rfl, hw2⟩
            subst hw2
            clear CG
            go_wp2
            go_round
            case rel => exact ⟨k + 1, by omega, by go_num, HT.out⟩
            case measure => simp [intOf]; omega
        · have hkk : k = sh := by omega
          have j1 : ¬ (k : Int) < (sh : Int) := by omega
          have HT : Hid (ot (n + 1) = true) := HN.out (by have := hall.out; rw [hkk] at this; exact this)
          clear hall HN
          go_wp2
          go_round
          case rel => exact ⟨n + 1, by omega, by go_num, HT⟩
          case measure => simp [intOf]; omega
    · have hnn : n = l.length := by omega
      have i1 : ¬ (n : Int) < (l.length : Int) := by omega
      have HR : Hid (R = true) := by have := hall.out; rw [hnn] at this; exact HF.out.trans this
      clear hall
      go_wp2
      go_ret
      exact ⟨by rw [HR.out]; rfl, B1.out⟩

set_option maxRecDepth 100000 in
set_option maxHeartbeats 2000000 in
theorem can1_ok (sh : Nat) (p q : Nat) (w : World) (p0 : w.cell? ⟨p, 0, none⟩ = some (.int .i64 (sh : Int))) (p1 : w.cell? ⟨p, 1, none⟩ = some (.slice la l.length lc)) (q0 : w.cell? ⟨q, 0, none⟩ = some (.slice sa S.st.length sc)) (q1 : w.cell? ⟨q, 1, none⟩ = some (.slice ra S.rd.length rc)) (q2 : w.cell? ⟨q, 2, none⟩ = some (.slice wa S.wr.length tc)) (q3 : w.cell? ⟨q, 3, none⟩ = some (.slice va S.vs.length vc)) (hl : IsTxs w la l) (hs : Sta w sa ra wa va S) (hE : stE sh l S = 0) :
    Calls Tryz.prog 63 #[.pointer (some ⟨p, 0, none⟩), .pointer (some ⟨q, 0, none⟩)] w fun e w' => ∃ v, e = .returned v ∧ w'.ownsRow w.heap.size 48 3 v (canL sh l S).length (cellsT (canL sh l S)) ∧ Below w.heap.size w w' := by
  obtain ⟨i0, hi, hz0, hz1, hz2⟩ := info_parts Tryz.info48
  have CH : Hid (Calls Tryz.prog 49 #[.agg #[.int .i64 (sh : Int), .slice la l.length lc], .agg #[.slice sa S.st.length sc, .slice ra S.rd.length rc, .slice wa S.wr.length tc, .slice va S.vs.length vc]] w fun e w' => ∃ h A, e = .returned (.pointer (some ⟨h, 0, none⟩)) ∧ Hall w' h sh l S A ∧ w.heap.size ≤ h ∧ h < w'.heap.size ∧ (∀ j, w'.frozen? ⟨h, j, none⟩ = false) ∧ w.heap.size ≤ A.p ∧ A.p < h ∧ A.la = la ∧ Below w.heap.size w w') := hall_ok la lc l sa ra wa va sc rc tc vc S sh w hl hs hE
  clear hl hs hE
  have HC : Hid (canL sh l S = canK sh l S 1 ++ canK sh l S 2) := rfl
  go_enter Tryz.func63, Tryz.ntmps63
  go_wp2_with fail
  refine CH.out.mono ?_
  rintro e w1 ⟨h, A, rfl, hH, _, _, _, _, _, _, hb⟩
  have B1 : Hid (Below w.heap.size w w1) := hb
  have hl8 := hH.l8
  have hs4 := hH.s4
  have CAN : Hid (∀ w', Below w1.heap.size w1 w' → ∀ kd, kd = 1 ∨ kd = 2 → Calls Tryz.prog 64 #[.pointer (some ⟨h, 0, none⟩), .int .i64 ((kd : Nat) : Int)] w' fun e w'' => ∃ v, e = .returned v ∧ w''.ownsRow w'.heap.size 48 3 v (canK sh l S kd).length (cellsT (canK sh l S kd)) ∧ Below w'.heap.size w' w'') := fun w' hb kd hk => can_own (hH.below hb) kd hk
  have len1 : (canK sh l S 1).length ≤ 40 := Nat.le_trans (canT_len sh l S 1 l.length) (Nat.le_trans (Nat.mul_le_mul hl8 hs4) (by decide))
  have len2 : (canK sh l S 2).length ≤ 40 := Nat.le_trans (canT_len sh l S 2 l.length) (Nat.le_trans (Nat.mul_le_mul hl8 hs4) (by decide))
  clear hb p0 p1 q0 q1 q2 q3 hH CH
  go_wp2_with fail
  refine (CAN.out w1 (Below.refl _ _) 1 (.inl rfl)).mono ?_
  rintro e w2 ⟨v1, rfl, ho1, hb2⟩
  have HB2 : Hid (Below w1.heap.size w1 w2) := hb2
  have HO1 : Hid (w2.ownsRow w1.heap.size 48 3 v1 (canK sh l S 1).length (cellsT (canK sh l S 1))) := ho1
  clear hb2 ho1
  go_wp2_with fail
  refine (CAN.out w2 HB2.out 2 (.inr rfl)).mono ?_
  rintro e w3 ⟨v2, rfl, ho2, hb3⟩
  have HO3 : Hid (w3.ownsRow w.heap.size 48 3 v1 (canK sh l S 1).length (cellsT (canK sh l S 1))) := own_low (owns_below HO1.out hb3) B1.out.size
  have B3 : Hid (Below w.heap.size w w3) := grow_trans B1.out (grow_trans HB2.out hb3)
  have hsz : w.heap.size ≤ w3.heap.size := B3.out.size
  obtain ⟨a2, c2, rfl, hs2⟩ := steps_of_owns ho2 rfl
  have HS2 : Hid (IsSteps w3 a2 (canK sh l S 2)) := hs2
  have HN2 : Hid (a2 = none → canK sh l S 2 = []) := fun e => by
    cases hc : canK sh l S 2 with
    | nil => rfl
    | cons x t =>
      obtain ⟨b, off, ea, _⟩ := hs2 0 (by rw [hc]; simp)
      rw [e] at ea; cases ea
  have HC2 : Hid (a2 = none → c2 = 0) := fun e => by
    rcases ho2.2 with ⟨hh, _⟩ | ⟨g, cap, cur, hh, _⟩
    · injection hh
    · injection hh with q; rw [e] at q; cases q
  clear hs2 ho2 hb3 HO1 HB2 CAN
  generalize canK sh l S 1 = K1 at *
  generalize canK sh l S 2 = K2 at *
  have FIN : Hid (∀ (v' : Value) (w4 : World), w4.ownsRow w.heap.size 48 3 v' (K1.length + K2.length) (cellsT K1 ++ cellsT K2) → w4.ownsRow w.heap.size 48 3 v' (canL sh l S).length (cellsT (canL sh l S))) := fun v' w4 h => by
    rw [HC.out, cellsT_app, List.length_append]; exact h
  cases a2 with
  | none =>
    have e2 := HN2.out rfl
    subst e2
    have R : Hid (w3.ownsRow w.heap.size 48 3 v1 (canL sh l S).length (cellsT (canL sh l S))) := FIN.out v1 w3 (by have := HO3.out; simpa [cellsT] using this)
    have e3 : c2 = 0 := HC2.out rfl
    subst e3
    clear FIN HC HC2 HS2 HN2
    go_wp2_with (first | (at_builtin; refine wpList_append_own_none rfl _ _ 43 rfl w.heap.size 48 i0 3 Tryz.underlying43 hi _ _ _ rfl HO3.out rfl ?_) | go_in)
    clear HO3
    go_wp2
    go_ret
    exact ⟨_, rfl, R.out, B3.out⟩
  | some ad =>
    have hnews : ∀ j u, (cellsT K2)[j]? = some u → w3.cell? (ad.add j) = some u := news_steps HS2.out
    clear HS2 HN2
    go_wp2_with (first | (at_builtin; (refine wpList_append_own _ rfl _ _ 43 rfl w.heap.size 48 i0 (.agg #[.int .i64 0, .int .i64 0, .int .i64 0]) 3 24 Tryz.underlying43 hi hz0 hz1 hz2 rfl (by decide) _ _ _ rfl HO3.out ad K2.length c2 (cellsT K2) rfl (cellsT_len K2) hnews (cellsT_one K2) (by unfold maxLen; omega) (by omega) hsz ?_); intro v' w4 hown' hgrow _) | go_in)
    have R : Hid (w4.ownsRow w.heap.size 48 3 v' (canL sh l S).length (cellsT (canL sh l S))) := FIN.out v' w4 hown'
    have RB : Hid (Below w.heap.size w w4) := B3.out.grown hgrow hsz (fun j hj => (HO3.out.lt j hj).1)
    clear hown' hgrow HO3 FIN hnews HC
    go_wp2
    go_ret
    exact ⟨_, rfl, R.out, RB.out⟩
end Go.Proofs.YtebjkmknhpgemaaGreat

namespace Go.Proofs.YtebjkmknhpgemaaGreat
open Go.RowKit

set_option maxRecDepth 100000 in
theorem catchBo_panicking (p : Addr) (x y : Int) (older : List PanicEntry) (w : World) (hc : w.cell? p = some (.int .i64 y)) (hz : w.frozen? p = false) :
    CallsD Tryz.prog 93 #[.pointer (some p)] (.panicking ({ v := .iface 30 (.int .i64 x), recovered := false } :: older)) w fun e u' w' =>
      e = .returned (.tuple #[]) ∧ u' = .panicking ({ v := .iface 30 (.int .i64 x), recovered := true } :: older) ∧ w' = w.setCell p (.int .i64 x) := by
  refine callsD_of_wpS Tryz.func93 rfl fun c₀ cs hu => ?_
  apply wpS_seq
  apply wpS_region
  simp [wpOpsS, go_sem, recoverD, hu, Tryz.ntmps93, Exit.thenS]
  apply wpS_seq
  apply wpS_region
  simp [wpOpsS, go_sem, Exit.thenS]
  refine wpS_cond (t := true) (by simp [Act.eval, Array.replicate]) ?_
  simp only [if_true]
  apply wpS_region
  simp [wpOpsS, go_sem, assert_errno, hc, hz, bodyPostS, results, Tryz.results93]

set_option maxRecDepth 100000 in
theorem catchBo_idle (p : Addr) (w : World) :
    CallsD Tryz.prog 93 #[.pointer (some p)] .returning w fun e u' w' => e = .returned (.tuple #[]) ∧ u' = .returning ∧ w' = w := by
  refine callsD_of_wpS Tryz.func93 rfl fun c₀ cs hu => ?_
  apply wpS_seq
  apply wpS_region
  simp [wpOpsS, go_sem, recoverD, hu, Tryz.ntmps93, Exit.thenS]
  apply wpS_seq
  apply wpS_region
  simp [wpOpsS, go_sem, Exit.thenS]
  refine wpS_cond (t := false) (by simp [Act.eval, Array.replicate]) ?_
  simp only [Bool.false_eq_true, if_false]
  refine wpS_of_wp (wp_skip ?_)
  cases c₀
  simp_all [bodyPostS, results, Tryz.results93]

set_option maxRecDepth 100000 in
theorem caughtBo_ret (F : FuncId) (cap : Array Value) (hF : ∀ w, Sem.run Tryz.prog (callFunc F cap) w = .ok (.enter F cap) w) (P : Value → World → Prop) (w : World) (hP : ∀ v w', P v w' → P v (w'.setCell ⟨w.heap.size, 0, none⟩ (.int .i64 0)))
    (h : Calls Tryz.prog F cap (w.alloc (.cells #[.int .i64 0] 30)) fun e w' => ∃ v, e = .returned v ∧ P v w' ∧ Below (w.heap.size + 1) (w.alloc (.cells #[.int .i64 0] 30)) w') :
    Calls Tryz.prog 47 #[.func (.func F) #[] cap] w fun e w' => ∃ v, e = .returned (.tuple #[v, .int .i64 0]) ∧ P v w' ∧ Below w.heap.size w w' := by
  have hmf : ∀ (fn : Fn) (first cap : Array Value) (w : World), (Instr.makeFunc fn first cap).run Tryz.prog w = .ok (.func fn first cap) w := fun _ _ _ _ => rfl
  have H : Hid (Calls Tryz.prog F cap (w.alloc (.cells #[.int .i64 0] 30)) fun e w' => ∃ v, e = .returned v ∧ P v w' ∧ Below (w.heap.size + 1) (w.alloc (.cells #[.int .i64 0] 30)) w') := h
  have HP : Hid (∀ v w', P v w' → P v (w'.setCell ⟨w.heap.size, 0, none⟩ (.int .i64 0))) := hP
  have HF : Hid (∀ w, Sem.run Tryz.prog (callFunc F cap) w = .ok (.enter F cap) w) := hF
  clear h hP hF
  go_enter_defers Tryz.func47, Tryz.ntmps47
  go_wp2_with fail
  rw [HF.out, Oper.upon_enter]
  refine H.out.mono ?_
  clear H
  rintro e w1 ⟨v, rfl, hv, hb⟩
  have hc : w1.cell? ⟨w.heap.size, 0, none⟩ = some (.int .i64 0) := by rw [hb.cell (by simp)]; simp
  have hf : w1.frozen? ⟨w.heap.size, 0, none⟩ = false := by rw [hb.frozen (by simp)]; simp
  have Hb : Hid (Below (w.heap.size + 1) (w.alloc (.cells #[.int .i64 0] 30)) w1) := hb
  have HV : Hid (P v (w1.setCell ⟨w.heap.size, 0, none⟩ (.int .i64 0))) := HP.out v w1 hv
  clear hb hv HP
  go_wp2
  refine leaves_cons (f := 93) (args := #[.pointer (some ⟨w.heap.size, 0, none⟩)]) (by simp) (by simp [go_sem]) ?_
  refine (catchBo_idle ⟨w.heap.size, 0, none⟩ _).mono ?_
  rintro e u' w'' ⟨rfl, rfl, rfl⟩
  simp [Leaves, settle, results, Tryz.results47, go_sem, hc]
  have hb := Hb.out
  exact ⟨HV.out, ((Below.refl _ _).alloc (Nat.le_refl _) _ |>.trans (hb.mono (by omega))).setCell (by simp) _⟩

set_option maxRecDepth 100000 in
theorem caughtBo_pan (F : FuncId) (cap : Array Value) (hF : ∀ w, Sem.run Tryz.prog (callFunc F cap) w = .ok (.enter F cap) w) (x : Int) (w : World)
    (h : Calls Tryz.prog F cap (w.alloc (.cells #[.int .i64 0] 30)) fun e w' => e = .panicked [{ v := .iface 30 (.int .i64 x), recovered := false }] ∧ Below (w.heap.size + 1) (w.alloc (.cells #[.int .i64 0] 30)) w') :
    Calls Tryz.prog 47 #[.func (.func F) #[] cap] w fun e w' => e = .returned (.tuple #[.bool false, .int .i64 x]) ∧ Below w.heap.size w w' := by
  have hmf : ∀ (fn : Fn) (first cap : Array Value) (w : World), (Instr.makeFunc fn first cap).run Tryz.prog w = .ok (.func fn first cap) w := fun _ _ _ _ => rfl
  have H : Hid (Calls Tryz.prog F cap (w.alloc (.cells #[.int .i64 0] 30)) fun e w' => e = .panicked [{ v := .iface 30 (.int .i64 x), recovered := false }] ∧ Below (w.heap.size + 1) (w.alloc (.cells #[.int .i64 0] 30)) w') := h
  have HF : Hid (∀ w, Sem.run Tryz.prog (callFunc F cap) w = .ok (.enter F cap) w) := hF
  clear h hF
  go_enter_defers Tryz.func47, Tryz.ntmps47
  go_wp2_with fail
  rw [HF.out, Oper.upon_enter]
  refine H.out.mono ?_
  clear H
  rintro e w1 ⟨rfl, hb⟩
  have hc : w1.cell? ⟨w.heap.size, 0, none⟩ = some (.int .i64 0) := by rw [hb.cell (by simp)]; simp
  have hf : w1.frozen? ⟨w.heap.size, 0, none⟩ = false := by rw [hb.frozen (by simp)]; simp
  refine leaves_cons (f := 93) (args := #[.pointer (some ⟨w.heap.size, 0, none⟩)]) (by simp) (by simp [go_sem]) ?_
  refine (catchBo_panicking ⟨w.heap.size, 0, none⟩ x 0 [] _ hc hf).mono ?_
  rintro e u' w'' ⟨rfl, rfl, rfl⟩
  simp [Leaves, settle, results, Tryz.results47, go_sem, hc]
  exact ((Below.refl _ _).alloc (Nat.le_refl _) _ |>.trans (hb.mono (by omega))).setCell (by simp) _

end Go.Proofs.YtebjkmknhpgemaaGreat

namespace Go.Proofs.YtebjkmknhpgemaaGreat
open Go.RowKit

/-- Where the four lists of a state lie. -/
structure Q4 where
  sa : Option Addr
  ra : Option Addr
  wa : Option Addr
  va : Option Addr
  sn : Nat
  rn : Nat
  wn : Nat
  vn : Nat
  sc : Nat
  rc : Nat
  tc : Nat
  vc : Nat
set_option maxRecDepth 100000 in
theorem catchHa_panicking (p : Addr) (x y : Int) (older : List PanicEntry) (w : World) (hc : w.cell? p = some (.int .i64 y)) (hz : w.frozen? p = false) :
    CallsD Tryz.prog 105 #[.pointer (some p)] (.panicking ({ v := .iface 30 (.int .i64 x), recovered := false } :: older)) w fun e u' w' =>
      e = .returned (.tuple #[]) ∧ u' = .panicking ({ v := .iface 30 (.int .i64 x), recovered := true } :: older) ∧ w' = w.setCell p (.int .i64 x) := by
  refine callsD_of_wpS Tryz.func105 rfl fun c₀ cs hu => ?_
  apply wpS_seq
  apply wpS_region
  simp [wpOpsS, go_sem, recoverD, hu, Tryz.ntmps105, Exit.thenS]
  apply wpS_seq
  apply wpS_region
  simp [wpOpsS, go_sem, Exit.thenS]
  refine wpS_cond (t := true) (by simp [Act.eval, Array.replicate]) ?_
  simp only [if_true]
  apply wpS_region
  simp [wpOpsS, go_sem, assert_errno, hc, hz, bodyPostS, results, Tryz.results105]

set_option maxRecDepth 100000 in
theorem catchHa_idle (p : Addr) (w : World) :
    CallsD Tryz.prog 105 #[.pointer (some p)] .returning w fun e u' w' => e = .returned (.tuple #[]) ∧ u' = .returning ∧ w' = w := by
  refine callsD_of_wpS Tryz.func105 rfl fun c₀ cs hu => ?_
  apply wpS_seq
  apply wpS_region
  simp [wpOpsS, go_sem, recoverD, hu, Tryz.ntmps105, Exit.thenS]
  apply wpS_seq
  apply wpS_region
  simp [wpOpsS, go_sem, Exit.thenS]
  refine wpS_cond (t := false) (by simp [Act.eval, Array.replicate]) ?_
  simp only [Bool.false_eq_true, if_false]
  refine wpS_of_wp (wp_skip ?_)
  cases c₀
  simp_all [bodyPostS, results, Tryz.results105]

set_option maxRecDepth 100000 in
theorem caughtHa_ret (F : FuncId) (cap : Array Value) (hF : ∀ w, Sem.run Tryz.prog (callFunc F cap) w = .ok (.enter F cap) w) (P : Value → World → Prop) (w : World) (hP : ∀ v w', P v w' → P v (w'.setCell ⟨w.heap.size, 0, none⟩ (.int .i64 0)))
    (h : Calls Tryz.prog F cap (w.alloc (.cells #[.int .i64 0] 30)) fun e w' => ∃ v, e = .returned v ∧ P v w' ∧ Below (w.heap.size + 1) (w.alloc (.cells #[.int .i64 0] 30)) w') :
    Calls Tryz.prog 59 #[.func (.func F) #[] cap] w fun e w' => ∃ v, e = .returned (.tuple #[v, .int .i64 0]) ∧ P v w' ∧ Below w.heap.size w w' := by
  have hmf : ∀ (fn : Fn) (first cap : Array Value) (w : World), (Instr.makeFunc fn first cap).run Tryz.prog w = .ok (.func fn first cap) w := fun _ _ _ _ => rfl
  have H : Hid (Calls Tryz.prog F cap (w.alloc (.cells #[.int .i64 0] 30)) fun e w' => ∃ v, e = .returned v ∧ P v w' ∧ Below (w.heap.size + 1) (w.alloc (.cells #[.int .i64 0] 30)) w') := h
  have HP : Hid (∀ v w', P v w' → P v (w'.setCell ⟨w.heap.size, 0, none⟩ (.int .i64 0))) := hP
  have HF : Hid (∀ w, Sem.run Tryz.prog (callFunc F cap) w = .ok (.enter F cap) w) := hF
  clear h hP hF
  go_enter_defers Tryz.func59, Tryz.ntmps59
  go_wp2_with fail
  rw [HF.out, Oper.upon_enter]
  refine H.out.mono ?_
  clear H
  rintro e w1 ⟨v, rfl, hv, hb⟩
  have hc : w1.cell? ⟨w.heap.size, 0, none⟩ = some (.int .i64 0) := by rw [hb.cell (by simp)]; simp
  have hf : w1.frozen? ⟨w.heap.size, 0, none⟩ = false := by rw [hb.frozen (by simp)]; simp
  have Hb : Hid (Below (w.heap.size + 1) (w.alloc (.cells #[.int .i64 0] 30)) w1) := hb
  have HV : Hid (P v (w1.setCell ⟨w.heap.size, 0, none⟩ (.int .i64 0))) := HP.out v w1 hv
  clear hb hv HP
  go_wp2
  refine leaves_cons (f := 105) (args := #[.pointer (some ⟨w.heap.size, 0, none⟩)]) (by simp) (by simp [go_sem]) ?_
  refine (catchHa_idle ⟨w.heap.size, 0, none⟩ _).mono ?_
  rintro e u' w'' ⟨rfl, rfl, rfl⟩
  simp [Leaves, settle, results, Tryz.results59, go_sem, hc]
  have hb := Hb.out
  exact ⟨HV.out, ((Below.refl _ _).alloc (Nat.le_refl _) _ |>.trans (hb.mono (by omega))).setCell (by simp) _⟩

set_option maxRecDepth 100000 in
theorem caughtHa_pan (F : FuncId) (cap : Array Value) (hF : ∀ w, Sem.run Tryz.prog (callFunc F cap) w = .ok (.enter F cap) w) (x : Int) (w : World)
    (h : Calls Tryz.prog F cap (w.alloc (.cells #[.int .i64 0] 30)) fun e w' => e = .panicked [{ v := .iface 30 (.int .i64 x), recovered := false }] ∧ Below (w.heap.size + 1) (w.alloc (.cells #[.int .i64 0] 30)) w') :
    Calls Tryz.prog 59 #[.func (.func F) #[] cap] w fun e w' => e = .returned (.tuple #[.pointer none, .int .i64 x]) ∧ Below w.heap.size w w' := by
  have hmf : ∀ (fn : Fn) (first cap : Array Value) (w : World), (Instr.makeFunc fn first cap).run Tryz.prog w = .ok (.func fn first cap) w := fun _ _ _ _ => rfl
  have H : Hid (Calls Tryz.prog F cap (w.alloc (.cells #[.int .i64 0] 30)) fun e w' => e = .panicked [{ v := .iface 30 (.int .i64 x), recovered := false }] ∧ Below (w.heap.size + 1) (w.alloc (.cells #[.int .i64 0] 30)) w') := h
  have HF : Hid (∀ w, Sem.run Tryz.prog (callFunc F cap) w = .ok (.enter F cap) w) := hF
  clear h hF
  go_enter_defers Tryz.func59, Tryz.ntmps59
  go_wp2_with fail
  rw [HF.out, Oper.upon_enter]
  refine H.out.mono ?_
  clear H
  rintro e w1 ⟨rfl, hb⟩
  have hc : w1.cell? ⟨w.heap.size, 0, none⟩ = some (.int .i64 0) := by rw [hb.cell (by simp)]; simp
  have hf : w1.frozen? ⟨w.heap.size, 0, none⟩ = false := by rw [hb.frozen (by simp)]; simp
  refine leaves_cons (f := 105) (args := #[.pointer (some ⟨w.heap.size, 0, none⟩)]) (by simp) (by simp [go_sem]) ?_
  refine (catchHa_panicking ⟨w.heap.size, 0, none⟩ x 0 [] _ hc hf).mono ?_
  rintro e u' w'' ⟨rfl, rfl, rfl⟩
  simp [Leaves, settle, results, Tryz.results59, go_sem, hc]
  exact ((Below.refl _ _).alloc (Nat.le_refl _) _ |>.trans (hb.mono (by omega))).setCell (by simp) _

set_option maxRecDepth 100000 in
theorem catchSp_panicking (p : Addr) (x y : Int) (older : List PanicEntry) (w : World) (hc : w.cell? p = some (.int .i64 y)) (hz : w.frozen? p = false) :
    CallsD Tryz.prog 106 #[.pointer (some p)] (.panicking ({ v := .iface 30 (.int .i64 x), recovered := false } :: older)) w fun e u' w' =>
      e = .returned (.tuple #[]) ∧ u' = .panicking ({ v := .iface 30 (.int .i64 x), recovered := true } :: older) ∧ w' = w.setCell p (.int .i64 x) := by
  refine callsD_of_wpS Tryz.func106 rfl fun c₀ cs hu => ?_
  apply wpS_seq
  apply wpS_region
  simp [wpOpsS, go_sem, recoverD, hu, Tryz.ntmps106, Exit.thenS]
  apply wpS_seq
  apply wpS_region
  simp [wpOpsS, go_sem, Exit.thenS]
  refine wpS_cond (t := true) (by simp [Act.eval, Array.replicate]) ?_
  simp only [if_true]
  apply wpS_region
  simp [wpOpsS, go_sem, assert_errno, hc, hz, bodyPostS, results, Tryz.results106]

set_option maxRecDepth 100000 in
theorem catchSp_idle (p : Addr) (w : World) :
    CallsD Tryz.prog 106 #[.pointer (some p)] .returning w fun e u' w' => e = .returned (.tuple #[]) ∧ u' = .returning ∧ w' = w := by
  refine callsD_of_wpS Tryz.func106 rfl fun c₀ cs hu => ?_
  apply wpS_seq
  apply wpS_region
  simp [wpOpsS, go_sem, recoverD, hu, Tryz.ntmps106, Exit.thenS]
  apply wpS_seq
  apply wpS_region
  simp [wpOpsS, go_sem, Exit.thenS]
  refine wpS_cond (t := false) (by simp [Act.eval, Array.replicate]) ?_
  simp only [Bool.false_eq_true, if_false]
  refine wpS_of_wp (wp_skip ?_)
  cases c₀
  simp_all [bodyPostS, results, Tryz.results106]

set_option maxRecDepth 100000 in
theorem caughtSp_ret (F : FuncId) (cap : Array Value) (hF : ∀ w, Sem.run Tryz.prog (callFunc F cap) w = .ok (.enter F cap) w) (P : Value → World → Prop) (w : World) (hP : ∀ v w', P v w' → P v (w'.setCell ⟨w.heap.size, 0, none⟩ (.int .i64 0)))
    (h : Calls Tryz.prog F cap (w.alloc (.cells #[.int .i64 0] 30)) fun e w' => ∃ v, e = .returned v ∧ P v w' ∧ Below (w.heap.size + 1) (w.alloc (.cells #[.int .i64 0] 30)) w') :
    Calls Tryz.prog 62 #[.func (.func F) #[] cap] w fun e w' => ∃ v, e = .returned (.tuple #[v, .int .i64 0]) ∧ P v w' ∧ Below w.heap.size w w' := by
  have hmf : ∀ (fn : Fn) (first cap : Array Value) (w : World), (Instr.makeFunc fn first cap).run Tryz.prog w = .ok (.func fn first cap) w := fun _ _ _ _ => rfl
  have H : Hid (Calls Tryz.prog F cap (w.alloc (.cells #[.int .i64 0] 30)) fun e w' => ∃ v, e = .returned v ∧ P v w' ∧ Below (w.heap.size + 1) (w.alloc (.cells #[.int .i64 0] 30)) w') := h
  have HP : Hid (∀ v w', P v w' → P v (w'.setCell ⟨w.heap.size, 0, none⟩ (.int .i64 0))) := hP
  have HF : Hid (∀ w, Sem.run Tryz.prog (callFunc F cap) w = .ok (.enter F cap) w) := hF
  clear h hP hF
  go_enter_defers Tryz.func62, Tryz.ntmps62
  go_wp2_with fail
  rw [HF.out, Oper.upon_enter]
  refine H.out.mono ?_
  clear H
  rintro e w1 ⟨v, rfl, hv, hb⟩
  have hc : w1.cell? ⟨w.heap.size, 0, none⟩ = some (.int .i64 0) := by rw [hb.cell (by simp)]; simp
  have hf : w1.frozen? ⟨w.heap.size, 0, none⟩ = false := by rw [hb.frozen (by simp)]; simp
  have Hb : Hid (Below (w.heap.size + 1) (w.alloc (.cells #[.int .i64 0] 30)) w1) := hb
  have HV : Hid (P v (w1.setCell ⟨w.heap.size, 0, none⟩ (.int .i64 0))) := HP.out v w1 hv
  clear hb hv HP
  go_wp2
  refine leaves_cons (f := 106) (args := #[.pointer (some ⟨w.heap.size, 0, none⟩)]) (by simp) (by simp [go_sem]) ?_
  refine (catchSp_idle ⟨w.heap.size, 0, none⟩ _).mono ?_
  rintro e u' w'' ⟨rfl, rfl, rfl⟩
  simp [Leaves, settle, results, Tryz.results62, go_sem, hc]
  have hb := Hb.out
  exact ⟨HV.out, ((Below.refl _ _).alloc (Nat.le_refl _) _ |>.trans (hb.mono (by omega))).setCell (by simp) _⟩

set_option maxRecDepth 100000 in
theorem caughtSp_pan (F : FuncId) (cap : Array Value) (hF : ∀ w, Sem.run Tryz.prog (callFunc F cap) w = .ok (.enter F cap) w) (x : Int) (w : World)
    (h : Calls Tryz.prog F cap (w.alloc (.cells #[.int .i64 0] 30)) fun e w' => e = .panicked [{ v := .iface 30 (.int .i64 x), recovered := false }] ∧ Below (w.heap.size + 1) (w.alloc (.cells #[.int .i64 0] 30)) w') :
    Calls Tryz.prog 62 #[.func (.func F) #[] cap] w fun e w' => e = .returned (.tuple #[.slice none 0 0, .int .i64 x]) ∧ Below w.heap.size w w' := by
  have hmf : ∀ (fn : Fn) (first cap : Array Value) (w : World), (Instr.makeFunc fn first cap).run Tryz.prog w = .ok (.func fn first cap) w := fun _ _ _ _ => rfl
  have H : Hid (Calls Tryz.prog F cap (w.alloc (.cells #[.int .i64 0] 30)) fun e w' => e = .panicked [{ v := .iface 30 (.int .i64 x), recovered := false }] ∧ Below (w.heap.size + 1) (w.alloc (.cells #[.int .i64 0] 30)) w') := h
  have HF : Hid (∀ w, Sem.run Tryz.prog (callFunc F cap) w = .ok (.enter F cap) w) := hF
  clear h hF
  go_enter_defers Tryz.func62, Tryz.ntmps62
  go_wp2_with fail
  rw [HF.out, Oper.upon_enter]
  refine H.out.mono ?_
  clear H
  rintro e w1 ⟨rfl, hb⟩
  have hc : w1.cell? ⟨w.heap.size, 0, none⟩ = some (.int .i64 0) := by rw [hb.cell (by simp)]; simp
  have hf : w1.frozen? ⟨w.heap.size, 0, none⟩ = false := by rw [hb.frozen (by simp)]; simp
  refine leaves_cons (f := 106) (args := #[.pointer (some ⟨w.heap.size, 0, none⟩)]) (by simp) (by simp [go_sem]) ?_
  refine (catchSp_panicking ⟨w.heap.size, 0, none⟩ x 0 [] _ hc hf).mono ?_
  rintro e u' w'' ⟨rfl, rfl, rfl⟩
  simp [Leaves, settle, results, Tryz.results62, go_sem, hc]
  exact ((Below.refl _ _).alloc (Nat.le_refl _) _ |>.trans (hb.mono (by omega))).setCell (by simp) _

set_option maxRecDepth 100000 in
theorem catchRl_panicking (p : Addr) (x y : Int) (older : List PanicEntry) (w : World) (hc : w.cell? p = some (.int .i64 y)) (hz : w.frozen? p = false) :
    CallsD Tryz.prog 116 #[.pointer (some p)] (.panicking ({ v := .iface 30 (.int .i64 x), recovered := false } :: older)) w fun e u' w' =>
      e = .returned (.tuple #[]) ∧ u' = .panicking ({ v := .iface 30 (.int .i64 x), recovered := true } :: older) ∧ w' = w.setCell p (.int .i64 x) := by
  refine callsD_of_wpS Tryz.func116 rfl fun c₀ cs hu => ?_
  apply wpS_seq
  apply wpS_region
  simp [wpOpsS, go_sem, recoverD, hu, Tryz.ntmps116, Exit.thenS]
  apply wpS_seq
  apply wpS_region
  simp [wpOpsS, go_sem, Exit.thenS]
  refine wpS_cond (t := true) (by simp [Act.eval, Array.replicate]) ?_
  simp only [if_true]
  apply wpS_region
  simp [wpOpsS, go_sem, assert_errno, hc, hz, bodyPostS, results, Tryz.results116]

set_option maxRecDepth 100000 in
theorem catchRl_idle (p : Addr) (w : World) :
    CallsD Tryz.prog 116 #[.pointer (some p)] .returning w fun e u' w' => e = .returned (.tuple #[]) ∧ u' = .returning ∧ w' = w := by
  refine callsD_of_wpS Tryz.func116 rfl fun c₀ cs hu => ?_
  apply wpS_seq
  apply wpS_region
  simp [wpOpsS, go_sem, recoverD, hu, Tryz.ntmps116, Exit.thenS]
  apply wpS_seq
  apply wpS_region
  simp [wpOpsS, go_sem, Exit.thenS]
  refine wpS_cond (t := false) (by simp [Act.eval, Array.replicate]) ?_
  simp only [Bool.false_eq_true, if_false]
  refine wpS_of_wp (wp_skip ?_)
  cases c₀
  simp_all [bodyPostS, results, Tryz.results116]

set_option maxRecDepth 100000 in
theorem caughtRl_ret (F : FuncId) (cap : Array Value) (hF : ∀ w, Sem.run Tryz.prog (callFunc F cap) w = .ok (.enter F cap) w) (P : Value → World → Prop) (w : World) (hP : ∀ v w', P v w' → P v (w'.setCell ⟨w.heap.size, 0, none⟩ (.int .i64 0)))
    (h : Calls Tryz.prog F cap (w.alloc (.cells #[.int .i64 0] 30)) fun e w' => ∃ v, e = .returned v ∧ P v w' ∧ Below (w.heap.size + 1) (w.alloc (.cells #[.int .i64 0] 30)) w') :
    Calls Tryz.prog 78 #[.func (.func F) #[] cap] w fun e w' => ∃ v, e = .returned (.tuple #[v, .int .i64 0]) ∧ P v w' ∧ Below w.heap.size w w' := by
  have hmf : ∀ (fn : Fn) (first cap : Array Value) (w : World), (Instr.makeFunc fn first cap).run Tryz.prog w = .ok (.func fn first cap) w := fun _ _ _ _ => rfl
  have H : Hid (Calls Tryz.prog F cap (w.alloc (.cells #[.int .i64 0] 30)) fun e w' => ∃ v, e = .returned v ∧ P v w' ∧ Below (w.heap.size + 1) (w.alloc (.cells #[.int .i64 0] 30)) w') := h
  have HP : Hid (∀ v w', P v w' → P v (w'.setCell ⟨w.heap.size, 0, none⟩ (.int .i64 0))) := hP
  have HF : Hid (∀ w, Sem.run Tryz.prog (callFunc F cap) w = .ok (.enter F cap) w) := hF
  clear h hP hF
  go_enter_defers Tryz.func78, Tryz.ntmps78
  go_wp2_with fail
  rw [HF.out, Oper.upon_enter]
  refine H.out.mono ?_
  clear H
  rintro e w1 ⟨v, rfl, hv, hb⟩
  have hc : w1.cell? ⟨w.heap.size, 0, none⟩ = some (.int .i64 0) := by rw [hb.cell (by simp)]; simp
  have hf : w1.frozen? ⟨w.heap.size, 0, none⟩ = false := by rw [hb.frozen (by simp)]; simp
  have Hb : Hid (Below (w.heap.size + 1) (w.alloc (.cells #[.int .i64 0] 30)) w1) := hb
  have HV : Hid (P v (w1.setCell ⟨w.heap.size, 0, none⟩ (.int .i64 0))) := HP.out v w1 hv
  clear hb hv HP
  go_wp2
  refine leaves_cons (f := 116) (args := #[.pointer (some ⟨w.heap.size, 0, none⟩)]) (by simp) (by simp [go_sem]) ?_
  refine (catchRl_idle ⟨w.heap.size, 0, none⟩ _).mono ?_
  rintro e u' w'' ⟨rfl, rfl, rfl⟩
  simp [Leaves, settle, results, Tryz.results78, go_sem, hc]
  have hb := Hb.out
  exact ⟨HV.out, ((Below.refl _ _).alloc (Nat.le_refl _) _ |>.trans (hb.mono (by omega))).setCell (by simp) _⟩

set_option maxRecDepth 100000 in
theorem caughtRl_pan (F : FuncId) (cap : Array Value) (hF : ∀ w, Sem.run Tryz.prog (callFunc F cap) w = .ok (.enter F cap) w) (x : Int) (w : World)
    (h : Calls Tryz.prog F cap (w.alloc (.cells #[.int .i64 0] 30)) fun e w' => e = .panicked [{ v := .iface 30 (.int .i64 x), recovered := false }] ∧ Below (w.heap.size + 1) (w.alloc (.cells #[.int .i64 0] 30)) w') :
    Calls Tryz.prog 78 #[.func (.func F) #[] cap] w fun e w' => e = .returned (.tuple #[.slice none 0 0, .int .i64 x]) ∧ Below w.heap.size w w' := by
  have hmf : ∀ (fn : Fn) (first cap : Array Value) (w : World), (Instr.makeFunc fn first cap).run Tryz.prog w = .ok (.func fn first cap) w := fun _ _ _ _ => rfl
  have H : Hid (Calls Tryz.prog F cap (w.alloc (.cells #[.int .i64 0] 30)) fun e w' => e = .panicked [{ v := .iface 30 (.int .i64 x), recovered := false }] ∧ Below (w.heap.size + 1) (w.alloc (.cells #[.int .i64 0] 30)) w') := h
  have HF : Hid (∀ w, Sem.run Tryz.prog (callFunc F cap) w = .ok (.enter F cap) w) := hF
  clear h hF
  go_enter_defers Tryz.func78, Tryz.ntmps78
  go_wp2_with fail
  rw [HF.out, Oper.upon_enter]
  refine H.out.mono ?_
  clear H
  rintro e w1 ⟨rfl, hb⟩
  have hc : w1.cell? ⟨w.heap.size, 0, none⟩ = some (.int .i64 0) := by rw [hb.cell (by simp)]; simp
  have hf : w1.frozen? ⟨w.heap.size, 0, none⟩ = false := by rw [hb.frozen (by simp)]; simp
  refine leaves_cons (f := 116) (args := #[.pointer (some ⟨w.heap.size, 0, none⟩)]) (by simp) (by simp [go_sem]) ?_
  refine (catchRl_panicking ⟨w.heap.size, 0, none⟩ x 0 [] _ hc hf).mono ?_
  rintro e u' w'' ⟨rfl, rfl, rfl⟩
  simp [Leaves, settle, results, Tryz.results78, go_sem, hc]
  exact ((Below.refl _ _).alloc (Nat.le_refl _) _ |>.trans (hb.mono (by omega))).setCell (by simp) _

set_option maxRecDepth 100000 in
theorem catchSa_panicking (p : Addr) (x y : Int) (older : List PanicEntry) (w : World) (hc : w.cell? p = some (.int .i64 y)) (hz : w.frozen? p = false) :
    CallsD Tryz.prog 92 #[.pointer (some p)] (.panicking ({ v := .iface 30 (.int .i64 x), recovered := false } :: older)) w fun e u' w' =>
      e = .returned (.tuple #[]) ∧ u' = .panicking ({ v := .iface 30 (.int .i64 x), recovered := true } :: older) ∧ w' = w.setCell p (.int .i64 x) := by
  refine callsD_of_wpS Tryz.func92 rfl fun c₀ cs hu => ?_
  apply wpS_seq
  apply wpS_region
  simp [wpOpsS, go_sem, recoverD, hu, Tryz.ntmps92, Exit.thenS]
  apply wpS_seq
  apply wpS_region
  simp [wpOpsS, go_sem, Exit.thenS]
  refine wpS_cond (t := true) (by simp [Act.eval, Array.replicate]) ?_
  simp only [if_true]
  apply wpS_region
  simp [wpOpsS, go_sem, assert_errno, hc, hz, bodyPostS, results, Tryz.results92]

set_option maxRecDepth 100000 in
theorem catchSa_idle (p : Addr) (w : World) :
    CallsD Tryz.prog 92 #[.pointer (some p)] .returning w fun e u' w' => e = .returned (.tuple #[]) ∧ u' = .returning ∧ w' = w := by
  refine callsD_of_wpS Tryz.func92 rfl fun c₀ cs hu => ?_
  apply wpS_seq
  apply wpS_region
  simp [wpOpsS, go_sem, recoverD, hu, Tryz.ntmps92, Exit.thenS]
  apply wpS_seq
  apply wpS_region
  simp [wpOpsS, go_sem, Exit.thenS]
  refine wpS_cond (t := false) (by simp [Act.eval, Array.replicate]) ?_
  simp only [Bool.false_eq_true, if_false]
  refine wpS_of_wp (wp_skip ?_)
  cases c₀
  simp_all [bodyPostS, results, Tryz.results92]


set_option maxRecDepth 100000 in
set_option maxHeartbeats 1000000 in
theorem caughtSa_ret (F : FuncId) (cap : Array Value) (hF : ∀ w, Sem.run Tryz.prog (callFunc F cap) w = .ok (.enter F cap) w) (P : Q4 → World → Prop) (w : World) (hP : ∀ q w' i u j, (j = w.heap.size ∨ j = w.heap.size + 1) → P q w' → P q (w'.setCell ⟨j, i, none⟩ u))
    (h : Calls Tryz.prog F cap ((w.alloc (.cells #[.slice none 0 0, .slice none 0 0, .slice none 0 0, .slice none 0 0] 29)).alloc (.cells #[.int .i64 0] 30)) fun e w' => ∃ q : Q4, e = .returned (.agg #[.slice q.sa q.sn q.sc, .slice q.ra q.rn q.rc, .slice q.wa q.wn q.tc, .slice q.va q.vn q.vc]) ∧ P q w' ∧ Below ((w.alloc (.cells #[.slice none 0 0, .slice none 0 0, .slice none 0 0, .slice none 0 0] 29)).alloc (.cells #[.int .i64 0] 30)).heap.size ((w.alloc (.cells #[.slice none 0 0, .slice none 0 0, .slice none 0 0, .slice none 0 0] 29)).alloc (.cells #[.int .i64 0] 30)) w') :
    Calls Tryz.prog 41 #[.func (.func F) #[] cap] w fun e w' => ∃ q : Q4, e = .returned (.tuple #[.agg #[.slice q.sa q.sn q.sc, .slice q.ra q.rn q.rc, .slice q.wa q.wn q.tc, .slice q.va q.vn q.vc], .int .i64 0]) ∧ P q w' ∧ Below w.heap.size w w' := by
  have hmf : ∀ (fn : Fn) (first cap : Array Value) (w : World), (Instr.makeFunc fn first cap).run Tryz.prog w = .ok (.func fn first cap) w := fun _ _ _ _ => rfl
  have H : Hid (Calls Tryz.prog F cap ((w.alloc (.cells #[.slice none 0 0, .slice none 0 0, .slice none 0 0, .slice none 0 0] 29)).alloc (.cells #[.int .i64 0] 30)) fun e w' => ∃ q : Q4, e = .returned (.agg #[.slice q.sa q.sn q.sc, .slice q.ra q.rn q.rc, .slice q.wa q.wn q.tc, .slice q.va q.vn q.vc]) ∧ P q w' ∧ Below ((w.alloc (.cells #[.slice none 0 0, .slice none 0 0, .slice none 0 0, .slice none 0 0] 29)).alloc (.cells #[.int .i64 0] 30)).heap.size ((w.alloc (.cells #[.slice none 0 0, .slice none 0 0, .slice none 0 0, .slice none 0 0] 29)).alloc (.cells #[.int .i64 0] 30)) w') := h
  have HP : Hid (∀ q w' i u j, (j = w.heap.size ∨ j = w.heap.size + 1) → P q w' → P q (w'.setCell ⟨j, i, none⟩ u)) := hP
  have HF : Hid (∀ w, Sem.run Tryz.prog (callFunc F cap) w = .ok (.enter F cap) w) := hF
  clear h hP hF
  go_enter_defers Tryz.func41, Tryz.ntmps41
  go_wp2_with fail
  rw [HF.out, Oper.upon_enter]
  refine H.out.mono ?_
  clear H
  rintro e w1 ⟨q, rfl, hq, hb⟩
  have e0 : w1.cell? ⟨w.heap.size + 1, 0, none⟩ = some (.int .i64 0) := ext_cell hb (at_new _ _ 30 _ 0 _ (by simp) rfl)
  have ef : ∀ j, w1.frozen? ⟨w.heap.size + 1, j, none⟩ = false := fun j => (hb.frozen (p := ⟨w.heap.size + 1, j, none⟩) (by simp)).trans (by simp)
  have c0 : w1.cell? ⟨w.heap.size, 0, none⟩ = some (.slice none 0 0) := ext_cell hb (ext_cell (grow_alloc (Below.refl _ _) _) (at_new w _ 29 _ 0 _ rfl rfl))
  have c1 : w1.cell? ⟨w.heap.size, 1, none⟩ = some (.slice none 0 0) := ext_cell hb (ext_cell (grow_alloc (Below.refl _ _) _) (at_new w _ 29 _ 1 _ rfl rfl))
  have c2 : w1.cell? ⟨w.heap.size, 2, none⟩ = some (.slice none 0 0) := ext_cell hb (ext_cell (grow_alloc (Below.refl _ _) _) (at_new w _ 29 _ 2 _ rfl rfl))
  have c3 : w1.cell? ⟨w.heap.size, 3, none⟩ = some (.slice none 0 0) := ext_cell hb (ext_cell (grow_alloc (Below.refl _ _) _) (at_new w _ 29 _ 3 _ rfl rfl))
  have cf : ∀ j, w1.frozen? ⟨w.heap.size, j, none⟩ = false := fun j => (hb.frozen (p := ⟨w.heap.size, j, none⟩) (by simp; omega)).trans (((grow_alloc (Below.refl (w.alloc (.cells #[.slice none 0 0, .slice none 0 0, .slice none 0 0, .slice none 0 0] 29)).heap.size (w.alloc (.cells #[.slice none 0 0, .slice none 0 0, .slice none 0 0, .slice none 0 0] 29))) (.cells #[.int .i64 0] 30)).frozen (p := ⟨w.heap.size, j, none⟩) (by simp)).trans (by simp))
  have HV : Hid (P q w1) := hq
  have B1 : Hid (Below w.heap.size w w1) := grow_trans (grow_alloc (grow_alloc (Below.refl _ _) _) _) hb
  clear hb hq
  go_wp2
  refine leaves_cons (f := 92) (args := #[.pointer (some ⟨w.heap.size + 1, 0, none⟩)]) (by simp) (by simp [go_sem]) ?_
  refine (catchSa_idle ⟨w.heap.size + 1, 0, none⟩ _).mono ?_
  rintro e u' w'' ⟨rfl, rfl, rfl⟩
  simp [Leaves, settle, results, Tryz.results41, go_sem, e0, c0, c1, c2, c3]
  refine ⟨q, by simp, ?_, ?_⟩
  · exact HP.out _ _ 0 _ _ (.inr rfl) (HP.out _ _ 3 _ _ (.inl rfl) (HP.out _ _ 2 _ _ (.inl rfl) (HP.out _ _ 1 _ _ (.inl rfl) (HP.out _ _ 0 _ _ (.inl rfl) HV.out))))
  · exact grow_set (grow_set (grow_set (grow_set (grow_set B1.out (Nat.le_refl _) _) (Nat.le_refl _) _) (Nat.le_refl _) _) (Nat.le_refl _) _) (by simp) _

set_option maxRecDepth 100000 in
set_option maxHeartbeats 1000000 in
theorem caughtSa_pan (F : FuncId) (cap : Array Value) (hF : ∀ w, Sem.run Tryz.prog (callFunc F cap) w = .ok (.enter F cap) w) (x : Int) (w : World)
    (h : Calls Tryz.prog F cap ((w.alloc (.cells #[.slice none 0 0, .slice none 0 0, .slice none 0 0, .slice none 0 0] 29)).alloc (.cells #[.int .i64 0] 30)) fun e w' => e = .panicked [{ v := .iface 30 (.int .i64 x), recovered := false }] ∧ Below ((w.alloc (.cells #[.slice none 0 0, .slice none 0 0, .slice none 0 0, .slice none 0 0] 29)).alloc (.cells #[.int .i64 0] 30)).heap.size ((w.alloc (.cells #[.slice none 0 0, .slice none 0 0, .slice none 0 0, .slice none 0 0] 29)).alloc (.cells #[.int .i64 0] 30)) w') :
    Calls Tryz.prog 41 #[.func (.func F) #[] cap] w fun e w' => e = .returned (.tuple #[.agg #[.slice none 0 0, .slice none 0 0, .slice none 0 0, .slice none 0 0], .int .i64 x]) ∧ Below w.heap.size w w' := by
  have hmf : ∀ (fn : Fn) (first cap : Array Value) (w : World), (Instr.makeFunc fn first cap).run Tryz.prog w = .ok (.func fn first cap) w := fun _ _ _ _ => rfl
  have H : Hid (Calls Tryz.prog F cap ((w.alloc (.cells #[.slice none 0 0, .slice none 0 0, .slice none 0 0, .slice none 0 0] 29)).alloc (.cells #[.int .i64 0] 30)) fun e w' => e = .panicked [{ v := .iface 30 (.int .i64 x), recovered := false }] ∧ Below ((w.alloc (.cells #[.slice none 0 0, .slice none 0 0, .slice none 0 0, .slice none 0 0] 29)).alloc (.cells #[.int .i64 0] 30)).heap.size ((w.alloc (.cells #[.slice none 0 0, .slice none 0 0, .slice none 0 0, .slice none 0 0] 29)).alloc (.cells #[.int .i64 0] 30)) w') := h
  have HF : Hid (∀ w, Sem.run Tryz.prog (callFunc F cap) w = .ok (.enter F cap) w) := hF
  clear h hF
  go_enter_defers Tryz.func41, Tryz.ntmps41
  go_wp2_with fail
  rw [HF.out, Oper.upon_enter]
  refine H.out.mono ?_
  clear H
  rintro e w1 ⟨rfl, hb⟩
  have e0 : w1.cell? ⟨w.heap.size + 1, 0, none⟩ = some (.int .i64 0) := ext_cell hb (at_new _ _ 30 _ 0 _ (by simp) rfl)
  have ef : w1.frozen? ⟨w.heap.size + 1, 0, none⟩ = false := (hb.frozen (p := ⟨w.heap.size + 1, 0, none⟩) (by simp)).trans (by simp)
  have c0 : w1.cell? ⟨w.heap.size, 0, none⟩ = some (.slice none 0 0) := ext_cell hb (ext_cell (grow_alloc (Below.refl _ _) _) (at_new w _ 29 _ 0 _ rfl rfl))
  have c1 : w1.cell? ⟨w.heap.size, 1, none⟩ = some (.slice none 0 0) := ext_cell hb (ext_cell (grow_alloc (Below.refl _ _) _) (at_new w _ 29 _ 1 _ rfl rfl))
  have c2 : w1.cell? ⟨w.heap.size, 2, none⟩ = some (.slice none 0 0) := ext_cell hb (ext_cell (grow_alloc (Below.refl _ _) _) (at_new w _ 29 _ 2 _ rfl rfl))
  have c3 : w1.cell? ⟨w.heap.size, 3, none⟩ = some (.slice none 0 0) := ext_cell hb (ext_cell (grow_alloc (Below.refl _ _) _) (at_new w _ 29 _ 3 _ rfl rfl))
  have B1 : Below w.heap.size w w1 := grow_trans (grow_alloc (grow_alloc (Below.refl _ _) _) _) hb
  clear hb
  refine leaves_cons (f := 92) (args := #[.pointer (some ⟨w.heap.size + 1, 0, none⟩)]) (by simp) (by simp [go_sem]) ?_
  refine (catchSa_panicking ⟨w.heap.size + 1, 0, none⟩ x 0 [] _ e0 ef).mono ?_
  rintro e u' w'' ⟨rfl, rfl, rfl⟩
  simp [Leaves, settle, results, Tryz.results41, go_sem, e0, c0, c1, c2, c3]
  exact grow_set B1 (by simp) _
end Go.Proofs.YtebjkmknhpgemaaGreat

namespace Go.Proofs.YtebjkmknhpgemaaGreat
open Go.RowKit

theorem below_up {W w' : World} {o : Obj} (hb : Below (W.alloc o).heap.size (W.alloc o) w') : Below (W.heap.size + 1) (W.alloc o) w' := by simpa using hb
theorem pan_up {W : World} {o : Obj} {F : FuncId} {cap : Array Value} {v : Ending} (h : Calls Tryz.prog F cap (W.alloc o) fun e w' => e = v ∧ Below (W.alloc o).heap.size (W.alloc o) w') : Calls Tryz.prog F cap (W.alloc o) fun e w' => e = v ∧ Below (W.heap.size + 1) (W.alloc o) w' := h.mono fun _ _ ⟨h1, h2⟩ => ⟨h1, below_up h2⟩
def ovE (m : Int) (l : List TxA) (S : SA) : Bool := if stE m l S = 0 then overB m.toNat l S else false
def canE (m : Int) (l : List TxA) (S : SA) : List (Nat × Nat × Nat) := if stE m l S = 0 then canL m.toNat l S else []

variable (la : Option Addr) (lc : Nat) (l : List TxA) (sa ra wa va : Option Addr) (sc rc tc vc : Nat) (S : SA)

set_option maxRecDepth 100000 in
set_option maxHeartbeats 1000000 in
theorem stepsCheck_any (m : Int) (w : World) (hl : IsTxs w la l) (hs : Sta w sa ra wa va S) :
    Calls Tryz.prog 22 #[.agg #[.int .i64 m, .slice la l.length lc], .agg #[.slice sa S.st.length sc, .slice ra S.rd.length rc, .slice wa S.wr.length tc, .slice va S.vs.length vc]] w fun e w' => e = .returned (.int .i64 (stE m l S)) ∧ Below w.heap.size w w' := by
  have hg : Below w.heap.size w (((w.alloc (.cells #[.int .i64 m, .slice la l.length lc] 24)).alloc (.cells #[.slice sa S.st.length sc, .slice ra S.rd.length rc, .slice wa S.wr.length tc, .slice va S.vs.length vc] 29)).alloc (.cells #[.int .i64 0] 30)) := grow_alloc (grow_alloc (grow_alloc (Below.refl _ _) _) _) _
  have hU : Hid (Below w.heap.size w ((w.alloc (.cells #[.int .i64 m, .slice la l.length lc] 24)).alloc (.cells #[.slice sa S.st.length sc, .slice ra S.rd.length rc, .slice wa S.wr.length tc, .slice va S.vs.length vc] 29))) := grow_alloc (grow_alloc (Below.refl _ _) _) _
  have hmf : ∀ (fn : Fn) (first cap : Array Value) (w : World), (Instr.makeFunc fn first cap).run Tryz.prog w = .ok (.func fn first cap) w := fun _ _ _ _ => rfl
  have p0 : (((w.alloc (.cells #[.int .i64 m, .slice la l.length lc] 24)).alloc (.cells #[.slice sa S.st.length sc, .slice ra S.rd.length rc, .slice wa S.wr.length tc, .slice va S.vs.length vc] 29)).alloc (.cells #[.int .i64 0] 30)).cell? ⟨w.heap.size, 0, none⟩ = some (.int .i64 m) := ext_cell (grow_alloc (grow_alloc (Below.refl _ _) _) _) (at_new w _ 24 _ 0 _ rfl rfl)
  have p1 : (((w.alloc (.cells #[.int .i64 m, .slice la l.length lc] 24)).alloc (.cells #[.slice sa S.st.length sc, .slice ra S.rd.length rc, .slice wa S.wr.length tc, .slice va S.vs.length vc] 29)).alloc (.cells #[.int .i64 0] 30)).cell? ⟨w.heap.size, 1, none⟩ = some (.slice la l.length lc) := ext_cell (grow_alloc (grow_alloc (Below.refl _ _) _) _) (at_new w _ 24 _ 1 _ rfl rfl)
  have q0 : (((w.alloc (.cells #[.int .i64 m, .slice la l.length lc] 24)).alloc (.cells #[.slice sa S.st.length sc, .slice ra S.rd.length rc, .slice wa S.wr.length tc, .slice va S.vs.length vc] 29)).alloc (.cells #[.int .i64 0] 30)).cell? ⟨w.heap.size + 1, 0, none⟩ = some (.slice sa S.st.length sc) := ext_cell (grow_alloc (Below.refl _ _) _) (at_new _ _ 29 _ 0 _ (by simp) rfl)
  have q1 : (((w.alloc (.cells #[.int .i64 m, .slice la l.length lc] 24)).alloc (.cells #[.slice sa S.st.length sc, .slice ra S.rd.length rc, .slice wa S.wr.length tc, .slice va S.vs.length vc] 29)).alloc (.cells #[.int .i64 0] 30)).cell? ⟨w.heap.size + 1, 1, none⟩ = some (.slice ra S.rd.length rc) := ext_cell (grow_alloc (Below.refl _ _) _) (at_new _ _ 29 _ 1 _ (by simp) rfl)
  have q2 : (((w.alloc (.cells #[.int .i64 m, .slice la l.length lc] 24)).alloc (.cells #[.slice sa S.st.length sc, .slice ra S.rd.length rc, .slice wa S.wr.length tc, .slice va S.vs.length vc] 29)).alloc (.cells #[.int .i64 0] 30)).cell? ⟨w.heap.size + 1, 2, none⟩ = some (.slice wa S.wr.length tc) := ext_cell (grow_alloc (Below.refl _ _) _) (at_new _ _ 29 _ 2 _ (by simp) rfl)
  have q3 : (((w.alloc (.cells #[.int .i64 m, .slice la l.length lc] 24)).alloc (.cells #[.slice sa S.st.length sc, .slice ra S.rd.length rc, .slice wa S.wr.length tc, .slice va S.vs.length vc] 29)).alloc (.cells #[.int .i64 0] 30)).cell? ⟨w.heap.size + 1, 3, none⟩ = some (.slice va S.vs.length vc) := ext_cell (grow_alloc (Below.refl _ _) _) (at_new _ _ 29 _ 3 _ (by simp) rfl)
  have CC : Hid (Calls Tryz.prog 59 #[.func (.func 60) #[] #[.pointer (some ⟨w.heap.size, 0, none⟩), .pointer (some ⟨w.heap.size + 1, 0, none⟩)]] ((w.alloc (.cells #[.int .i64 m, .slice la l.length lc] 24)).alloc (.cells #[.slice sa S.st.length sc, .slice ra S.rd.length rc, .slice wa S.wr.length tc, .slice va S.vs.length vc] 29)) fun e w' => ∃ v, e = .returned (.tuple #[v, .int .i64 (stE m l S)]) ∧ (∃ a, v = .pointer a) ∧ Below ((w.alloc (.cells #[.int .i64 m, .slice la l.length lc] 24)).alloc (.cells #[.slice sa S.st.length sc, .slice ra S.rd.length rc, .slice wa S.wr.length tc, .slice va S.vs.length vc] 29)).heap.size ((w.alloc (.cells #[.int .i64 m, .slice la l.length lc] 24)).alloc (.cells #[.slice sa S.st.length sc, .slice ra S.rd.length rc, .slice wa S.wr.length tc, .slice va S.vs.length vc] 29)) w') := by
    by_cases hE : stE m l S = 0
    · obtain ⟨sh, rfl, _⟩ := stE_zero hE
      rw [hE]
      refine (caughtHa_ret 60 _ (fun _ => rfl) (fun v _ => ∃ a, v = .pointer a) _ (fun v w' h => h) ((check1_ok la lc l sa ra wa va sc rc tc vc S sh _ _ _ p0 p1 q0 q1 q2 q3 (hl.below hg) (hs.below hg) hE).mono ?_)).mono ?_
      · rintro e w' ⟨a, rfl, hb⟩
        exact ⟨_, rfl, ⟨a, rfl⟩, below_up hb⟩
      · rintro e w' ⟨v, rfl, h, hb⟩
        exact ⟨v, rfl, h, hb⟩
    · refine (caughtHa_pan 60 _ (fun _ => rfl) _ _ (pan_up (check1_pan la lc l sa ra wa va sc rc tc vc S m _ _ _ p0 p1 q0 q1 q2 q3 (hl.below hg) (hs.below hg) hE))).mono ?_
      rintro e w' ⟨rfl, hb⟩
      exact ⟨_, rfl, ⟨none, rfl⟩, hb⟩
  have HG : Hid (Below w.heap.size w ((w.alloc (.cells #[.int .i64 m, .slice la l.length lc] 24)).alloc (.cells #[.slice sa S.st.length sc, .slice ra S.rd.length rc, .slice wa S.wr.length tc, .slice va S.vs.length vc] 29))) := hU
  clear hg hU p0 p1 q0 q1 q2 q3 hl hs
  go_enter Tryz.func22, Tryz.ntmps22
  go_wp2_with fail
  refine CC.out.mono ?_
  clear CC
  rintro e w1 ⟨v, rfl, ⟨a, rfl⟩, hb⟩
  have B1 : Hid (Below w.heap.size w w1) := grow_trans HG.out hb
  clear hb
  go_wp2
  go_ret
  exact ⟨rfl, B1.out⟩

set_option maxRecDepth 100000 in
set_option maxHeartbeats 1000000 in
theorem stepsOver_any (m : Int) (w : World) (hl : IsTxs w la l) (hs : Sta w sa ra wa va S) :
    Calls Tryz.prog 15 #[.agg #[.int .i64 m, .slice la l.length lc], .agg #[.slice sa S.st.length sc, .slice ra S.rd.length rc, .slice wa S.wr.length tc, .slice va S.vs.length vc]] w fun e w' => e = .returned (.tuple #[.bool (ovE m l S), .int .i64 (stE m l S)]) ∧ Below w.heap.size w w' := by
  have hg : Below w.heap.size w (((w.alloc (.cells #[.int .i64 m, .slice la l.length lc] 24)).alloc (.cells #[.slice sa S.st.length sc, .slice ra S.rd.length rc, .slice wa S.wr.length tc, .slice va S.vs.length vc] 29)).alloc (.cells #[.int .i64 0] 30)) := grow_alloc (grow_alloc (grow_alloc (Below.refl _ _) _) _) _
  have hU : Hid (Below w.heap.size w ((w.alloc (.cells #[.int .i64 m, .slice la l.length lc] 24)).alloc (.cells #[.slice sa S.st.length sc, .slice ra S.rd.length rc, .slice wa S.wr.length tc, .slice va S.vs.length vc] 29))) := grow_alloc (grow_alloc (Below.refl _ _) _) _
  have hmf : ∀ (fn : Fn) (first cap : Array Value) (w : World), (Instr.makeFunc fn first cap).run Tryz.prog w = .ok (.func fn first cap) w := fun _ _ _ _ => rfl
  have p0 : (((w.alloc (.cells #[.int .i64 m, .slice la l.length lc] 24)).alloc (.cells #[.slice sa S.st.length sc, .slice ra S.rd.length rc, .slice wa S.wr.length tc, .slice va S.vs.length vc] 29)).alloc (.cells #[.int .i64 0] 30)).cell? ⟨w.heap.size, 0, none⟩ = some (.int .i64 m) := ext_cell (grow_alloc (grow_alloc (Below.refl _ _) _) _) (at_new w _ 24 _ 0 _ rfl rfl)
  have p1 : (((w.alloc (.cells #[.int .i64 m, .slice la l.length lc] 24)).alloc (.cells #[.slice sa S.st.length sc, .slice ra S.rd.length rc, .slice wa S.wr.length tc, .slice va S.vs.length vc] 29)).alloc (.cells #[.int .i64 0] 30)).cell? ⟨w.heap.size, 1, none⟩ = some (.slice la l.length lc) := ext_cell (grow_alloc (grow_alloc (Below.refl _ _) _) _) (at_new w _ 24 _ 1 _ rfl rfl)
  have q0 : (((w.alloc (.cells #[.int .i64 m, .slice la l.length lc] 24)).alloc (.cells #[.slice sa S.st.length sc, .slice ra S.rd.length rc, .slice wa S.wr.length tc, .slice va S.vs.length vc] 29)).alloc (.cells #[.int .i64 0] 30)).cell? ⟨w.heap.size + 1, 0, none⟩ = some (.slice sa S.st.length sc) := ext_cell (grow_alloc (Below.refl _ _) _) (at_new _ _ 29 _ 0 _ (by simp) rfl)
  have q1 : (((w.alloc (.cells #[.int .i64 m, .slice la l.length lc] 24)).alloc (.cells #[.slice sa S.st.length sc, .slice ra S.rd.length rc, .slice wa S.wr.length tc, .slice va S.vs.length vc] 29)).alloc (.cells #[.int .i64 0] 30)).cell? ⟨w.heap.size + 1, 1, none⟩ = some (.slice ra S.rd.length rc) := ext_cell (grow_alloc (Below.refl _ _) _) (at_new _ _ 29 _ 1 _ (by simp) rfl)
  have q2 : (((w.alloc (.cells #[.int .i64 m, .slice la l.length lc] 24)).alloc (.cells #[.slice sa S.st.length sc, .slice ra S.rd.length rc, .slice wa S.wr.length tc, .slice va S.vs.length vc] 29)).alloc (.cells #[.int .i64 0] 30)).cell? ⟨w.heap.size + 1, 2, none⟩ = some (.slice wa S.wr.length tc) := ext_cell (grow_alloc (Below.refl _ _) _) (at_new _ _ 29 _ 2 _ (by simp) rfl)
  have q3 : (((w.alloc (.cells #[.int .i64 m, .slice la l.length lc] 24)).alloc (.cells #[.slice sa S.st.length sc, .slice ra S.rd.length rc, .slice wa S.wr.length tc, .slice va S.vs.length vc] 29)).alloc (.cells #[.int .i64 0] 30)).cell? ⟨w.heap.size + 1, 3, none⟩ = some (.slice va S.vs.length vc) := ext_cell (grow_alloc (Below.refl _ _) _) (at_new _ _ 29 _ 3 _ (by simp) rfl)
  have CC : Hid (Calls Tryz.prog 47 #[.func (.func 48) #[] #[.pointer (some ⟨w.heap.size, 0, none⟩), .pointer (some ⟨w.heap.size + 1, 0, none⟩)]] ((w.alloc (.cells #[.int .i64 m, .slice la l.length lc] 24)).alloc (.cells #[.slice sa S.st.length sc, .slice ra S.rd.length rc, .slice wa S.wr.length tc, .slice va S.vs.length vc] 29)) fun e w' => e = .returned (.tuple #[.bool (ovE m l S), .int .i64 (stE m l S)]) ∧ Below ((w.alloc (.cells #[.int .i64 m, .slice la l.length lc] 24)).alloc (.cells #[.slice sa S.st.length sc, .slice ra S.rd.length rc, .slice wa S.wr.length tc, .slice va S.vs.length vc] 29)).heap.size ((w.alloc (.cells #[.int .i64 m, .slice la l.length lc] 24)).alloc (.cells #[.slice sa S.st.length sc, .slice ra S.rd.length rc, .slice wa S.wr.length tc, .slice va S.vs.length vc] 29)) w') := by
    by_cases hE : stE m l S = 0
    · have e1 : ovE m l S = overB m.toNat l S := if_pos hE
      obtain ⟨sh, rfl, _⟩ := stE_zero hE
      rw [e1, hE]
      refine (caughtBo_ret 48 _ (fun _ => rfl) (fun v _ => v = .bool (overB sh l S)) _ (fun v w' h => h) ((over1_ok la lc l sa ra wa va sc rc tc vc S sh _ _ _ p0 p1 q0 q1 q2 q3 (hl.below hg) (hs.below hg) hE).mono ?_)).mono ?_
      · rintro e w' ⟨rfl, hb⟩
        exact ⟨_, rfl, rfl, below_up hb⟩
      · rintro e w' ⟨v, rfl, h, hb⟩
        rw [h]
        exact ⟨rfl, hb⟩
    · have e1 : ovE m l S = false := if_neg hE
      rw [e1]
      exact caughtBo_pan 48 _ (fun _ => rfl) _ _ (pan_up (over1_pan la lc l sa ra wa va sc rc tc vc S m _ _ _ p0 p1 q0 q1 q2 q3 (hl.below hg) (hs.below hg) hE))
  have HG : Hid (Below w.heap.size w ((w.alloc (.cells #[.int .i64 m, .slice la l.length lc] 24)).alloc (.cells #[.slice sa S.st.length sc, .slice ra S.rd.length rc, .slice wa S.wr.length tc, .slice va S.vs.length vc] 29))) := hU
  clear hg hU p0 p1 q0 q1 q2 q3 hl hs
  go_enter Tryz.func15, Tryz.ntmps15
  go_wp2_with fail
  refine CC.out.mono ?_
  clear CC
  rintro e w1 ⟨rfl, hb⟩
  have B1 : Hid (Below w.heap.size w w1) := grow_trans HG.out hb
  clear hb
  go_wp2
  go_ret2
  exact ⟨rfl, B1.out⟩

set_option maxRecDepth 100000 in
set_option maxHeartbeats 1000000 in
theorem stepsCan_any (m : Int) (w : World) (hl : IsTxs w la l) (hs : Sta w sa ra wa va S) :
    Calls Tryz.prog 24 #[.agg #[.int .i64 m, .slice la l.length lc], .agg #[.slice sa S.st.length sc, .slice ra S.rd.length rc, .slice wa S.wr.length tc, .slice va S.vs.length vc]] w fun e w' => ∃ a c, e = .returned (.tuple #[.slice a (canE m l S).length c, .int .i64 (stE m l S)]) ∧ IsSteps w' a (canE m l S) ∧ Below w.heap.size w w' := by
  have hg : Below w.heap.size w (((w.alloc (.cells #[.int .i64 m, .slice la l.length lc] 24)).alloc (.cells #[.slice sa S.st.length sc, .slice ra S.rd.length rc, .slice wa S.wr.length tc, .slice va S.vs.length vc] 29)).alloc (.cells #[.int .i64 0] 30)) := grow_alloc (grow_alloc (grow_alloc (Below.refl _ _) _) _) _
  have hU : Hid (Below w.heap.size w ((w.alloc (.cells #[.int .i64 m, .slice la l.length lc] 24)).alloc (.cells #[.slice sa S.st.length sc, .slice ra S.rd.length rc, .slice wa S.wr.length tc, .slice va S.vs.length vc] 29))) := grow_alloc (grow_alloc (Below.refl _ _) _) _
  have hmf : ∀ (fn : Fn) (first cap : Array Value) (w : World), (Instr.makeFunc fn first cap).run Tryz.prog w = .ok (.func fn first cap) w := fun _ _ _ _ => rfl
  have p0 : (((w.alloc (.cells #[.int .i64 m, .slice la l.length lc] 24)).alloc (.cells #[.slice sa S.st.length sc, .slice ra S.rd.length rc, .slice wa S.wr.length tc, .slice va S.vs.length vc] 29)).alloc (.cells #[.int .i64 0] 30)).cell? ⟨w.heap.size, 0, none⟩ = some (.int .i64 m) := ext_cell (grow_alloc (grow_alloc (Below.refl _ _) _) _) (at_new w _ 24 _ 0 _ rfl rfl)
  have p1 : (((w.alloc (.cells #[.int .i64 m, .slice la l.length lc] 24)).alloc (.cells #[.slice sa S.st.length sc, .slice ra S.rd.length rc, .slice wa S.wr.length tc, .slice va S.vs.length vc] 29)).alloc (.cells #[.int .i64 0] 30)).cell? ⟨w.heap.size, 1, none⟩ = some (.slice la l.length lc) := ext_cell (grow_alloc (grow_alloc (Below.refl _ _) _) _) (at_new w _ 24 _ 1 _ rfl rfl)
  have q0 : (((w.alloc (.cells #[.int .i64 m, .slice la l.length lc] 24)).alloc (.cells #[.slice sa S.st.length sc, .slice ra S.rd.length rc, .slice wa S.wr.length tc, .slice va S.vs.length vc] 29)).alloc (.cells #[.int .i64 0] 30)).cell? ⟨w.heap.size + 1, 0, none⟩ = some (.slice sa S.st.length sc) := ext_cell (grow_alloc (Below.refl _ _) _) (at_new _ _ 29 _ 0 _ (by simp) rfl)
  have q1 : (((w.alloc (.cells #[.int .i64 m, .slice la l.length lc] 24)).alloc (.cells #[.slice sa S.st.length sc, .slice ra S.rd.length rc, .slice wa S.wr.length tc, .slice va S.vs.length vc] 29)).alloc (.cells #[.int .i64 0] 30)).cell? ⟨w.heap.size + 1, 1, none⟩ = some (.slice ra S.rd.length rc) := ext_cell (grow_alloc (Below.refl _ _) _) (at_new _ _ 29 _ 1 _ (by simp) rfl)
  have q2 : (((w.alloc (.cells #[.int .i64 m, .slice la l.length lc] 24)).alloc (.cells #[.slice sa S.st.length sc, .slice ra S.rd.length rc, .slice wa S.wr.length tc, .slice va S.vs.length vc] 29)).alloc (.cells #[.int .i64 0] 30)).cell? ⟨w.heap.size + 1, 2, none⟩ = some (.slice wa S.wr.length tc) := ext_cell (grow_alloc (Below.refl _ _) _) (at_new _ _ 29 _ 2 _ (by simp) rfl)
  have q3 : (((w.alloc (.cells #[.int .i64 m, .slice la l.length lc] 24)).alloc (.cells #[.slice sa S.st.length sc, .slice ra S.rd.length rc, .slice wa S.wr.length tc, .slice va S.vs.length vc] 29)).alloc (.cells #[.int .i64 0] 30)).cell? ⟨w.heap.size + 1, 3, none⟩ = some (.slice va S.vs.length vc) := ext_cell (grow_alloc (Below.refl _ _) _) (at_new _ _ 29 _ 3 _ (by simp) rfl)
  have CC : Hid (Calls Tryz.prog 62 #[.func (.func 63) #[] #[.pointer (some ⟨w.heap.size, 0, none⟩), .pointer (some ⟨w.heap.size + 1, 0, none⟩)]] ((w.alloc (.cells #[.int .i64 m, .slice la l.length lc] 24)).alloc (.cells #[.slice sa S.st.length sc, .slice ra S.rd.length rc, .slice wa S.wr.length tc, .slice va S.vs.length vc] 29)) fun e w' => ∃ a c, e = .returned (.tuple #[.slice a (canE m l S).length c, .int .i64 (stE m l S)]) ∧ IsSteps w' a (canE m l S) ∧ Below ((w.alloc (.cells #[.int .i64 m, .slice la l.length lc] 24)).alloc (.cells #[.slice sa S.st.length sc, .slice ra S.rd.length rc, .slice wa S.wr.length tc, .slice va S.vs.length vc] 29)).heap.size ((w.alloc (.cells #[.int .i64 m, .slice la l.length lc] 24)).alloc (.cells #[.slice sa S.st.length sc, .slice ra S.rd.length rc, .slice wa S.wr.length tc, .slice va S.vs.length vc] 29)) w') := by
    by_cases hE : stE m l S = 0
    · have e1 : canE m l S = canL m.toNat l S := if_pos hE
      obtain ⟨sh, rfl, _⟩ := stE_zero hE
      rw [e1, hE]
      refine (caughtSp_ret 63 _ (fun _ => rfl) (fun v w' => w'.ownsRow (((w.alloc (.cells #[.int .i64 (sh : Int), .slice la l.length lc] 24)).alloc (.cells #[.slice sa S.st.length sc, .slice ra S.rd.length rc, .slice wa S.wr.length tc, .slice va S.vs.length vc] 29)).heap.size + 1) 48 3 v (canL sh l S).length (cellsT (canL sh l S))) _ (fun v w' h => own_kept h (grownBy_one w' _ 0 _) (fun j e q => by have := (h.lt j e).1; injection q with q; omega)) ((can1_ok la lc l sa ra wa va sc rc tc vc S sh _ _ _ p0 p1 q0 q1 q2 q3 (hl.below hg) (hs.below hg) hE).mono ?_)).mono ?_
      · rintro e w' ⟨v, rfl, ho, hb⟩
        exact ⟨_, rfl, by simpa using ho, below_up hb⟩
      · rintro e w' ⟨v, rfl, ho, hb⟩
        obtain ⟨a, c, rfl, h⟩ := steps_of_owns ho rfl
        exact ⟨a, c, rfl, h, hb⟩
    · have e1 : canE m l S = [] := if_neg hE
      rw [e1]
      refine (caughtSp_pan 63 _ (fun _ => rfl) _ _ (pan_up (can1_pan la lc l sa ra wa va sc rc tc vc S m _ _ _ p0 p1 q0 q1 q2 q3 (hl.below hg) (hs.below hg) hE))).mono ?_
      rintro e w' ⟨rfl, hb⟩
      exact ⟨none, 0, rfl, fun _ hi => absurd hi (Nat.not_lt_zero _), hb⟩
  have HG : Hid (Below w.heap.size w ((w.alloc (.cells #[.int .i64 m, .slice la l.length lc] 24)).alloc (.cells #[.slice sa S.st.length sc, .slice ra S.rd.length rc, .slice wa S.wr.length tc, .slice va S.vs.length vc] 29))) := hU
  clear hg hU p0 p1 q0 q1 q2 q3 hl hs
  go_enter Tryz.func24, Tryz.ntmps24
  go_wp2_with fail
  refine CC.out.mono ?_
  clear CC
  rintro e w1 ⟨a, c, rfl, h, hb⟩
  have B1 : Hid (Below w.heap.size w w1) := grow_trans HG.out hb
  have H1 : Hid (IsSteps w1 a (canE m l S)) := h
  clear hb h
  go_wp2
  go_ret2
  exact ⟨a, c, rfl, H1.out, B1.out⟩
end Go.Proofs.YtebjkmknhpgemaaGreat

namespace Go.Proofs.YtebjkmknhpgemaaGreat
open Go.RowKit

variable (la : Option Addr) (lc : Nat) (l : List TxA) (sa ra wa va : Option Addr) (sc rc tc vc : Nat) (S : SA)

theorem stepE_zero {sh : Nat} {l : List TxA} {S : SA} {kd n k : Int} (h : stepE sh l S kd n k = 0) : ∃ K N k' : Nat, kd = K ∧ n = N ∧ k = k' ∧ (K = 1 ∨ K = 2) ∧ N < l.length ∧ k' < sh ∧ hasB sh l K N k' = true ∧ doneB S K N k' = false ∧ freeB sh l S K N k' = true := by
  unfold stepE at h
  by_cases h1 : kd = 1 ∨ kd = 2
  · rw [if_pos h1] at h
    by_cases h2 : n < 0 ∨ (l.length : Int) ≤ n ∨ k < 0 ∨ (sh : Int) ≤ k
    · rw [if_pos h2] at h; cases h
    · rw [if_neg h2] at h
      by_cases h3 : hasB sh l kd.toNat n.toNat k.toNat = true
      · rw [if_pos h3] at h
        by_cases h4 : doneB S kd.toNat n.toNat k.toNat = true
        · rw [if_pos h4] at h; cases h
        · rw [if_neg h4] at h
          by_cases h5 : freeB sh l S kd.toNat n.toNat k.toNat = true
          · exact ⟨kd.toNat, n.toNat, k.toNat, by omega, by omega, by omega, by omega, by omega, by omega, h3, by simpa using h4, h5⟩
          · rw [if_neg h5] at h; cases h
      · rw [if_neg h3] at h; cases h
  · rw [if_neg h1] at h; cases h

set_option maxRecDepth 100000 in
set_option maxHeartbeats 1000000 in
theorem do1_pan (m : Int) (p q r : Nat) (w : World) (p0 : w.cell? ⟨p, 0, none⟩ = some (.int .i64 m)) (p1 : w.cell? ⟨p, 1, none⟩ = some (.slice la l.length lc)) (q0 : w.cell? ⟨q, 0, none⟩ = some (.slice sa S.st.length sc)) (q1 : w.cell? ⟨q, 1, none⟩ = some (.slice ra S.rd.length rc)) (q2 : w.cell? ⟨q, 2, none⟩ = some (.slice wa S.wr.length tc)) (q3 : w.cell? ⟨q, 3, none⟩ = some (.slice va S.vs.length vc)) (hl : IsTxs w la l) (hs : Sta w sa ra wa va S) (hE : ¬ stE m l S = 0) :
    Calls Tryz.prog 66 #[.pointer (some ⟨p, 0, none⟩), .pointer (some ⟨q, 0, none⟩), .pointer (some ⟨r, 0, none⟩)] w fun e w' => e = .panicked [{ v := .iface 30 (.int .i64 (stE m l S)), recovered := false }] ∧ Below w.heap.size w w' := by
  have hg0 : Below w.heap.size w (w.alloc (.cells #[.slice none 0 0, .slice none 0 0, .slice none 0 0, .slice none 0 0] 29)) := grow_alloc (Below.refl _ _) _
  have p0' := ext_cell hg0 p0
  have p1' := ext_cell hg0 p1
  have q0' := ext_cell hg0 q0
  have q1' := ext_cell hg0 q1
  have q2' := ext_cell hg0 q2
  have q3' := ext_cell hg0 q3
  have HG : Hid (Below w.heap.size w (w.alloc (.cells #[.slice none 0 0, .slice none 0 0, .slice none 0 0, .slice none 0 0] 29))) := hg0
  have CH : Hid (Calls Tryz.prog 49 #[.agg #[.int .i64 m, .slice la l.length lc], .agg #[.slice sa S.st.length sc, .slice ra S.rd.length rc, .slice wa S.wr.length tc, .slice va S.vs.length vc]] (w.alloc (.cells #[.slice none 0 0, .slice none 0 0, .slice none 0 0, .slice none 0 0] 29)) fun e w' => e = .panicked [{ v := .iface 30 (.int .i64 (stE m l S)), recovered := false }] ∧ Below (w.alloc (.cells #[.slice none 0 0, .slice none 0 0, .slice none 0 0, .slice none 0 0] 29)).heap.size (w.alloc (.cells #[.slice none 0 0, .slice none 0 0, .slice none 0 0, .slice none 0 0] 29)) w') := hall_pan la lc l sa ra wa va sc rc tc vc S m _ (hl.below hg0) (hs.below hg0) hE
  clear hl hs hE hg0 p0 p1 q0 q1 q2 q3
  go_enter Tryz.func66, Tryz.ntmps66
  go_upto_region 1 with fail
  generalize (w.alloc (.cells #[.slice none 0 0, .slice none 0 0, .slice none 0 0, .slice none 0 0] 29)) = W at *
  go_wp2_with fail
  refine CH.out.mono ?_
  rintro e w1 ⟨rfl, hb⟩
  exact ⟨rfl, rfl, grow_trans HG.out hb⟩

set_option maxRecDepth 100000 in
set_option maxHeartbeats 2000000 in
theorem do1_step (sh : Nat) (kd n k : Int) (p q r : Nat) (w : World) (p0 : w.cell? ⟨p, 0, none⟩ = some (.int .i64 (sh : Int))) (p1 : w.cell? ⟨p, 1, none⟩ = some (.slice la l.length lc)) (q0 : w.cell? ⟨q, 0, none⟩ = some (.slice sa S.st.length sc)) (q1 : w.cell? ⟨q, 1, none⟩ = some (.slice ra S.rd.length rc)) (q2 : w.cell? ⟨q, 2, none⟩ = some (.slice wa S.wr.length tc)) (q3 : w.cell? ⟨q, 3, none⟩ = some (.slice va S.vs.length vc)) (r0 : w.cell? ⟨r, 0, none⟩ = some (.int .i64 kd)) (r1 : w.cell? ⟨r, 1, none⟩ = some (.int .i64 n)) (r2 : w.cell? ⟨r, 2, none⟩ = some (.int .i64 k)) (hl : IsTxs w la l) (hs : Sta w sa ra wa va S) (hE : stE sh l S = 0) (hT : ¬ stepE sh l S kd n k = 0) :
    Calls Tryz.prog 66 #[.pointer (some ⟨p, 0, none⟩), .pointer (some ⟨q, 0, none⟩), .pointer (some ⟨r, 0, none⟩)] w fun e w' => e = .panicked [{ v := .iface 30 (.int .i64 (stepE sh l S kd n k)), recovered := false }] ∧ Below w.heap.size w w' := by
  have hg0 : Below w.heap.size w (w.alloc (.cells #[.slice none 0 0, .slice none 0 0, .slice none 0 0, .slice none 0 0] 29)) := grow_alloc (Below.refl _ _) _
  have p0' := ext_cell hg0 p0
  have p1' := ext_cell hg0 p1
  have q0' := ext_cell hg0 q0
  have q1' := ext_cell hg0 q1
  have q2' := ext_cell hg0 q2
  have q3' := ext_cell hg0 q3
  have r0' := ext_cell hg0 r0
  have r1' := ext_cell hg0 r1
  have r2' := ext_cell hg0 r2
  have HG : Hid (Below w.heap.size w (w.alloc (.cells #[.slice none 0 0, .slice none 0 0, .slice none 0 0, .slice none 0 0] 29))) := hg0
  have CH : Hid (Calls Tryz.prog 49 #[.agg #[.int .i64 (sh : Int), .slice la l.length lc], .agg #[.slice sa S.st.length sc, .slice ra S.rd.length rc, .slice wa S.wr.length tc, .slice va S.vs.length vc]] (w.alloc (.cells #[.slice none 0 0, .slice none 0 0, .slice none 0 0, .slice none 0 0] 29)) fun e w' => ∃ h A, e = .returned (.pointer (some ⟨h, 0, none⟩)) ∧ Hall w' h sh l S A ∧ (w.alloc (.cells #[.slice none 0 0, .slice none 0 0, .slice none 0 0, .slice none 0 0] 29)).heap.size ≤ h ∧ h < w'.heap.size ∧ (∀ j, w'.frozen? ⟨h, j, none⟩ = false) ∧ (w.alloc (.cells #[.slice none 0 0, .slice none 0 0, .slice none 0 0, .slice none 0 0] 29)).heap.size ≤ A.p ∧ A.p < h ∧ A.la = la ∧ Below (w.alloc (.cells #[.slice none 0 0, .slice none 0 0, .slice none 0 0, .slice none 0 0] 29)).heap.size (w.alloc (.cells #[.slice none 0 0, .slice none 0 0, .slice none 0 0, .slice none 0 0] 29)) w') := hall_ok la lc l sa ra wa va sc rc tc vc S sh _ (hl.below hg0) (hs.below hg0) hE
  have CT : Hid (∀ w1 h A, Hall w1 h sh l S A → Calls Tryz.prog 67 #[.pointer (some ⟨h, 0, none⟩), .agg #[.int .i64 kd, .int .i64 n, .int .i64 k]] w1 fun e w' => e = .returned (.int .i64 (stepE sh l S kd n k)) ∧ Below w1.heap.size w1 w') := fun w1 h A H => stepError_any H kd n k
  have HT : Hid (¬ stepE sh l S kd n k = 0) := hT
  clear hl hs hE hg0 p0 p1 q0 q1 q2 q3 r0 r1 r2 hT
  generalize stepE sh l S kd n k = E at *
  go_enter Tryz.func66, Tryz.ntmps66
  go_upto_region 1 with fail
  generalize (w.alloc (.cells #[.slice none 0 0, .slice none 0 0, .slice none 0 0, .slice none 0 0] 29)) = W at *
  go_wp2_with fail
  refine CH.out.mono ?_
  rintro e w1 ⟨h, A, rfl, hH, _, _, _, _, _, _, hb⟩
  have B1 : Hid (Below w.heap.size w w1) := grow_trans HG.out hb
  have HH : Hid (Hall w1 h sh l S A) := hH
  have s0 := ext_cell hb r0'
  have s1 := ext_cell hb r1'
  have s2 := ext_cell hb r2'
  clear hb hH CH p0' p1' q0' q1' q2' q3' r0' r1' r2' HG
  go_wp2_with fail
  refine (CT.out _ _ _ HH.out).mono ?_
  rintro e w2 ⟨rfl, hb⟩
  have B2 : Hid (Below w.heap.size w w2) := grow_trans B1.out hb
  clear hb B1 HH CT s0 s1 s2
  go_wp2_with fail
  have hz : firstNZ [E] = E := by
    show (if E = 0 then _ else E) = E
    rw [if_neg HT.out]
  have hlv := leave_nz [E] w2.heap.size 1 (w2.alloc (.cells #[.int .i64 E] 30)) (by simp) (by rw [hz]; exact HT.out) (errs1 w2 _ E rfl)
  rw [hz] at hlv
  refine hlv.mono ?_
  rintro e w3 ⟨rfl, rfl⟩
  exact ⟨rfl, rfl, grow_alloc B2.out _⟩

set_option maxRecDepth 100000 in
set_option maxHeartbeats 4000000 in
theorem do1_ok (sh : Nat) (K n k : Nat) (p q r : Nat) (w : World) (p0 : w.cell? ⟨p, 0, none⟩ = some (.int .i64 (sh : Int))) (p1 : w.cell? ⟨p, 1, none⟩ = some (.slice la l.length lc)) (q0 : w.cell? ⟨q, 0, none⟩ = some (.slice sa S.st.length sc)) (q1 : w.cell? ⟨q, 1, none⟩ = some (.slice ra S.rd.length rc)) (q2 : w.cell? ⟨q, 2, none⟩ = some (.slice wa S.wr.length tc)) (q3 : w.cell? ⟨q, 3, none⟩ = some (.slice va S.vs.length vc)) (r0 : w.cell? ⟨r, 0, none⟩ = some (.int .i64 (K : Int))) (r1 : w.cell? ⟨r, 1, none⟩ = some (.int .i64 (n : Int))) (r2 : w.cell? ⟨r, 2, none⟩ = some (.int .i64 (k : Int))) (hl : IsTxs w la l) (hs : Sta w sa ra wa va S) (hE : stE sh l S = 0) (hT : stepE sh l S (K : Int) (n : Int) (k : Int) = 0) (hK : K = 1 ∨ K = 2) (hn : n < l.length) (hk : k < sh) :
    Calls Tryz.prog 66 #[.pointer (some ⟨p, 0, none⟩), .pointer (some ⟨q, 0, none⟩), .pointer (some ⟨r, 0, none⟩)] w fun e w' => ∃ sa' ra' wa' va' sc' rc' tc' vc' g0 c1 c2 c3 hi gr gw gv Br Bw Bv, e = .returned (.agg #[.slice sa' 8 sc', .slice ra' l.length rc', .slice wa' l.length tc', .slice va' l.length vc']) ∧ OwnSt w.heap.size w' sa' ra' wa' va' sc' l sh (doX sh l S K n k) g0 c1 c2 c3 hi gr gw gv Br Bw Bv ∧ Below w.heap.size w w' := by
  have hg0 : Below w.heap.size w (w.alloc (.cells #[.slice none 0 0, .slice none 0 0, .slice none 0 0, .slice none 0 0] 29)) := grow_alloc (Below.refl _ _) _
  have p0' := ext_cell hg0 p0
  have p1' := ext_cell hg0 p1
  have q0' := ext_cell hg0 q0
  have q1' := ext_cell hg0 q1
  have q2' := ext_cell hg0 q2
  have q3' := ext_cell hg0 q3
  have r0' := ext_cell hg0 r0
  have r1' := ext_cell hg0 r1
  have r2' := ext_cell hg0 r2
  obtain ⟨sh', es, hs0, hs4, hck, _, hfb, _⟩ := stE_zero hE
  have es' : sh' = sh := by omega
  subst es'
  clear es
  have HF : Form sh' l S := formB_iff.1 hfb
  have hr4 : ∀ i, i < l.length → (gX l i).rs.length ≤ 4 := fun i hi => (many_small _ _ _ (chk_parts (chkL_in hck i hi)).1).1
  have hl8 := chkL_len hck
  have HG : Hid (Below w.heap.size w (w.alloc (.cells #[.slice none 0 0, .slice none 0 0, .slice none 0 0, .slice none 0 0] 29))) := hg0
  have CH : Hid (Calls Tryz.prog 49 #[.agg #[.int .i64 (sh' : Int), .slice la l.length lc], .agg #[.slice sa S.st.length sc, .slice ra S.rd.length rc, .slice wa S.wr.length tc, .slice va S.vs.length vc]] (w.alloc (.cells #[.slice none 0 0, .slice none 0 0, .slice none 0 0, .slice none 0 0] 29)) fun e w' => ∃ h A, e = .returned (.pointer (some ⟨h, 0, none⟩)) ∧ Hall w' h sh' l S A ∧ (w.alloc (.cells #[.slice none 0 0, .slice none 0 0, .slice none 0 0, .slice none 0 0] 29)).heap.size ≤ h ∧ h < w'.heap.size ∧ (∀ j, w'.frozen? ⟨h, j, none⟩ = false) ∧ (w.alloc (.cells #[.slice none 0 0, .slice none 0 0, .slice none 0 0, .slice none 0 0] 29)).heap.size ≤ A.p ∧ A.p < h ∧ A.la = la ∧ Below (w.alloc (.cells #[.slice none 0 0, .slice none 0 0, .slice none 0 0, .slice none 0 0] 29)).heap.size (w.alloc (.cells #[.slice none 0 0, .slice none 0 0, .slice none 0 0, .slice none 0 0] 29)) w') := hall_ok la lc l sa ra wa va sc rc tc vc S sh' _ (hl.below hg0) (hs.below hg0) hE
  have CT : Hid (∀ w1 h A, Hall w1 h sh' l S A → Calls Tryz.prog 67 #[.pointer (some ⟨h, 0, none⟩), .agg #[.int .i64 (K : Int), .int .i64 (n : Int), .int .i64 (k : Int)]] w1 fun e w' => e = .returned (.int .i64 0) ∧ Below w1.heap.size w1 w') := fun w1 h A H => by
    have h := stepError_any H (K : Int) (n : Int) (k : Int)
    rw [hT] at h
    exact h
  have CP : Hid (∀ w1, Below (w.alloc (.cells #[.slice none 0 0, .slice none 0 0, .slice none 0 0, .slice none 0 0] 29)).heap.size (w.alloc (.cells #[.slice none 0 0, .slice none 0 0, .slice none 0 0, .slice none 0 0] 29)) w1 → Calls Tryz.prog 68 #[.agg #[.slice sa S.st.length sc, .slice ra S.rd.length rc, .slice wa S.wr.length tc, .slice va S.vs.length vc]] w1 fun e w' => ∃ sa' ra' wa' va' sc' rc' tc' vc' g0 c1 c2 c3 gr gw gv Br Bw Bv, e = .returned (.agg #[.slice sa' 8 sc', .slice ra' l.length rc', .slice wa' l.length tc', .slice va' l.length vc']) ∧ OwnSt w1.heap.size w' sa' ra' wa' va' sc' l sh' S g0 c1 c2 c3 w'.heap.size gr gw gv Br Bw Bv ∧ Below w1.heap.size w1 w') := fun w1 hb => by
    have h := copyOf_own sa ra wa va sc rc tc vc l sh' S w1 hs0 hs4 hl8 hr4 HF ((hs.below hg0).below hb)
    rw [HF.st, HF.rd, HF.wr, HF.vs]
    exact h
  have HL : Hid (IsTxs w la l) := hl
  have HE : Hid (chkL l = 0) := hck
  have t0 : ∀ j, j < 4 → (w.alloc (.cells #[.slice none 0 0, .slice none 0 0, .slice none 0 0, .slice none 0 0] 29)).cell? ⟨w.heap.size, j, none⟩ = some (.slice none 0 0) := fun j hj => by
    match j, hj with
    | 0, _ => exact at_new _ _ 29 _ 0 _ (by simp) rfl
    | 1, _ => exact at_new _ _ 29 _ 1 _ (by simp) rfl
    | 2, _ => exact at_new _ _ 29 _ 2 _ (by simp) rfl
    | 3, _ => exact at_new _ _ 29 _ 3 _ (by simp) rfl
  have T0 : Hid (∀ j, j < 4 → (w.alloc (.cells #[.slice none 0 0, .slice none 0 0, .slice none 0 0, .slice none 0 0] 29)).cell? ⟨w.heap.size, j, none⟩ = some (.slice none 0 0)) := t0
  have TF : Hid (∀ j, (w.alloc (.cells #[.slice none 0 0, .slice none 0 0, .slice none 0 0, .slice none 0 0] 29)).frozen? ⟨w.heap.size, j, none⟩ = false) := fun j => by simp
  have sz : Hid ((w.alloc (.cells #[.slice none 0 0, .slice none 0 0, .slice none 0 0, .slice none 0 0] 29)).heap.size = w.heap.size + 1) := by show _ = _; simp
  clear hl hs hE hg0 p0 p1 q0 q1 q2 q3 r0 r1 r2 hT hfb hr4 HF hck t0
  go_enter Tryz.func66, Tryz.ntmps66
  go_upto_region 1 with fail
  generalize (w.alloc (.cells #[.slice none 0 0, .slice none 0 0, .slice none 0 0, .slice none 0 0] 29)) = W at *
  go_wp2_with fail
  refine CH.out.mono ?_
  rintro e w1 ⟨h, A, rfl, hH, hh1, hh2, hhf, hp1, hp2, hla, hb⟩
  have B1 : Hid (Below W.heap.size W w1) := hb
  have HH : Hid (Hall w1 h sh' l S A) := hH
  have HHF : Hid (∀ j, w1.frozen? ⟨h, j, none⟩ = false) := hhf
  have HLA : Hid (A.la = la) := hla
  have s0 := ext_cell hb r0'
  have s1 := ext_cell hb r1'
  have s2 := ext_cell hb r2'
  have RR : Hid (∀ w', Below W.heap.size W w' → w'.cell? ⟨q, 0, none⟩ = some (.slice sa S.st.length sc) ∧ w'.cell? ⟨q, 1, none⟩ = some (.slice ra S.rd.length rc) ∧ w'.cell? ⟨q, 2, none⟩ = some (.slice wa S.wr.length tc) ∧ w'.cell? ⟨q, 3, none⟩ = some (.slice va S.vs.length vc) ∧ w'.cell? ⟨r, 0, none⟩ = some (.int .i64 (K : Int)) ∧ w'.cell? ⟨r, 1, none⟩ = some (.int .i64 (n : Int)) ∧ w'.cell? ⟨r, 2, none⟩ = some (.int .i64 (k : Int))) := fun w' hb => ⟨ext_cell hb q0', ext_cell hb q1', ext_cell hb q2', ext_cell hb q3', ext_cell hb r0', ext_cell hb r1', ext_cell hb r2'⟩
  clear hb hH CH p0' p1' q0' q1' q2' q3' r0' r1' r2' hhf hla
  go_wp2_with fail
  refine (CT.out _ _ _ HH.out).mono ?_
  rintro e w2 ⟨rfl, hb2⟩
  clear s0 s1 s2 CT
  go_wp2_with fail
  refine (leave_zero [0] _ 1 _ (by simp) rfl (errs1 _ _ _ (by simp))).mono ?_
  rintro e w3 ⟨rfl, hw3⟩
  have b3 : Below w1.heap.size w1 w3 := by rw [hw3]; exact grow_trans hb2 (grow_alloc (Below.refl _ _) _)
  have B3 : Hid (Below w1.heap.size w1 w3) := b3
  have H3 : Hid (Hall w3 h sh' l S A) := HH.out.below b3
  clear hw3 hb2 b3
  obtain ⟨s0, s1, s2, s3, _⟩ := RR.out w3 (grow_trans B1.out B3.out)
  go_wp2_with fail
  refine (CP.out w3 (grow_trans B1.out B3.out)).mono ?_
  rintro e w4 ⟨sa', ra', wa', va', sc', rc', tc', vc', g0, c1, c2, c3, gr, gw, gv, Br, Bw, Bv, rfl, ho, hb4⟩
  have B4 : Hid (Below w3.heap.size w3 w4) := hb4
  have H4 : Hid (Hall w4 h sh' l S A) := H3.out.below hb4
  have HO : Hid (OwnSt w3.heap.size w4 sa' ra' wa' va' sc' l sh' S g0 c1 c2 c3 w4.heap.size gr gw gv Br Bw Bv) := ho
  have y1 := H4.out.h1
  have y2 := H4.out.h2
  have y3 := H4.out.h3
  have y4 := H4.out.h4
  have hh3 : h < w3.heap.size := Nat.lt_of_lt_of_le hh2 B3.out.size
  have FZ : ∀ j, w4.frozen? ⟨h, j, none⟩ = false := fun j => ((grow_trans B3.out B4.out).frozen (p := ⟨h, j, none⟩) hh2).trans (HHF.out j)
  have f1 := FZ 1
  have f2 := FZ 2
  have f3 := FZ 3
  have f4 := FZ 4
  have D5 : Hid (DoAt w ((((w4.setCell ⟨h, 1, none⟩ (.slice sa' 8 sc')).setCell ⟨h, 2, none⟩ (.slice ra' l.length rc')).setCell ⟨h, 3, none⟩ (.slice wa' l.length tc')).setCell ⟨h, 4, none⟩ (.slice va' l.length vc')) w3.heap.size h A.p la A.lc rc' tc' vc' sa' ra' wa' va' sc' l sh' S g0 c1 c2 c3 w4.heap.size gr gw gv Br Bw Bv ∧ Below W.heap.size W ((((w4.setCell ⟨h, 1, none⟩ (.slice sa' 8 sc')).setCell ⟨h, 2, none⟩ (.slice ra' l.length rc')).setCell ⟨h, 3, none⟩ (.slice wa' l.length tc')).setCell ⟨h, 4, none⟩ (.slice va' l.length vc'))) := by
    have e3 := B3.out.size
    have e1 := B1.out.size
    have ez := sz.out
    have o5 := (((HO.out.set h 1 (.slice sa' 8 sc') hh3).set h 2 (.slice ra' l.length rc') hh3).set h 3 (.slice wa' l.length tc') hh3).set h 4 (.slice va' l.length vc') hh3
    have hpne : A.p ≠ h := by omega
    have bl : Below W.heap.size W ((((w4.setCell ⟨h, 1, none⟩ (.slice sa' 8 sc')).setCell ⟨h, 2, none⟩ (.slice ra' l.length rc')).setCell ⟨h, 3, none⟩ (.slice wa' l.length tc')).setCell ⟨h, 4, none⟩ (.slice va' l.length vc')) := grow_set (grow_set (grow_set (grow_set (grow_trans (grow_trans B1.out B3.out) B4.out) hh1 _) hh1 _) hh1 _) hh1 _
    refine ⟨⟨set_off (by decide) (set_off (by decide) (set_off (by decide) (set_off (by decide) H4.out.h0))), set_off (by decide) (set_off (by decide) (set_off (by decide) (set_here y1))), set_off (by decide) (set_off (by decide) (set_here (set_off (by decide) y2))), set_off (by decide) (set_here (set_off (by decide) (set_off (by decide) y3))), set_here (set_off (by decide) (set_off (by decide) (set_off (by decide) y4))), ?_, ?_, hh3, by omega, HL.out, grow_trans HG.out bl, by omega, o5, hs0, hs4, hl8, HE.out⟩, bl⟩
    · rw [World.cell?_setCell_far _ _ _ _ (by simpa using hpne.symm), World.cell?_setCell_far _ _ _ _ (by simpa using hpne.symm), World.cell?_setCell_far _ _ _ _ (by simpa using hpne.symm), World.cell?_setCell_far _ _ _ _ (by simpa using hpne.symm)]
      exact H4.out.p0
    · rw [World.cell?_setCell_far _ _ _ _ (by simpa using hpne.symm), World.cell?_setCell_far _ _ _ _ (by simpa using hpne.symm), World.cell?_setCell_far _ _ _ _ (by simpa using hpne.symm), World.cell?_setCell_far _ _ _ _ (by simpa using hpne.symm)]
      rw [← HLA.out]
      exact H4.out.p1
  clear HO ho hb4 H3 HH HHF FZ CP s0 s1 s2 s3
  have hC : Hid (W.heap.size ≤ w3.heap.size) := by show _ ≤ _; have e3 := B3.out.size; have e1 := B1.out.size; omega
  have hRC : Hid (w.heap.size < w3.heap.size) := by show _ < _; have e3 := B3.out.size; have e1 := B1.out.size; have := sz.out; omega
  clear B1 B3 B4 H4 HL HLA
  go_upto_region 4 with fail
  clear y1 y2 y3 y4 f1 f2 f3 f4
  generalize ((((w4.setCell ⟨h, 1, none⟩ (.slice sa' 8 sc')).setCell ⟨h, 2, none⟩ (.slice ra' l.length rc')).setCell ⟨h, 3, none⟩ (.slice wa' l.length tc')).setCell ⟨h, 4, none⟩ (.slice va' l.length vc')) = W5 at *
  obtain ⟨_, _, _, _, s0, s1, s2⟩ := RR.out W5 D5.out.2
  have FIN : Hid (∀ w6, DoAt w w6 w3.heap.size h A.p la A.lc rc' tc' vc' sa' ra' wa' va' sc' l sh' (doX sh' l S K n k) g0 c1 c2 c3 w4.heap.size gr gw gv Br Bw Bv → Below w3.heap.size W5 w6 →
      w6.cell? ⟨h, 1, none⟩ = some (.slice sa' 8 sc') ∧ w6.cell? ⟨h, 2, none⟩ = some (.slice ra' l.length rc') ∧ w6.cell? ⟨h, 3, none⟩ = some (.slice wa' l.length tc') ∧ w6.cell? ⟨h, 4, none⟩ = some (.slice va' l.length vc') ∧
      w6.cell? ⟨w.heap.size, 0, none⟩ = some (.slice none 0 0) ∧ w6.cell? ⟨w.heap.size, 1, none⟩ = some (.slice none 0 0) ∧ w6.cell? ⟨w.heap.size, 2, none⟩ = some (.slice none 0 0) ∧ w6.cell? ⟨w.heap.size, 3, none⟩ = some (.slice none 0 0) ∧ (∀ j, w6.frozen? ⟨w.heap.size, j, none⟩ = false) ∧
      Hid (OwnSt w.heap.size ((((w6.setCell ⟨w.heap.size, 0, none⟩ (.slice sa' 8 sc')).setCell ⟨w.heap.size, 1, none⟩ (.slice ra' l.length rc')).setCell ⟨w.heap.size, 2, none⟩ (.slice wa' l.length tc')).setCell ⟨w.heap.size, 3, none⟩ (.slice va' l.length vc')) sa' ra' wa' va' sc' l sh' (doX sh' l S K n k) g0 c1 c2 c3 w4.heap.size gr gw gv Br Bw Bv ∧ Below w.heap.size w ((((w6.setCell ⟨w.heap.size, 0, none⟩ (.slice sa' 8 sc')).setCell ⟨w.heap.size, 1, none⟩ (.slice ra' l.length rc')).setCell ⟨w.heap.size, 2, none⟩ (.slice wa' l.length tc')).setCell ⟨w.heap.size, 3, none⟩ (.slice va' l.length vc')))) := fun w6 D6 hb6 => by
    have bw : Below W.heap.size W w6 := D5.out.2.trans (hb6.mono hC.out)
    have fz : ∀ j, w6.frozen? ⟨w.heap.size, j, none⟩ = false := fun j => (bw.frozen (p := ⟨w.heap.size, j, none⟩) (by have := sz.out; show w.heap.size < _; omega)).trans (TF.out j)
    refine ⟨D6.h1, D6.h2, D6.h3, D6.h4, ext_cell bw (T0.out 0 (by decide)), ext_cell bw (T0.out 1 (by decide)), ext_cell bw (T0.out 2 (by decide)), ext_cell bw (T0.out 3 (by decide)), fz, ?_, ?_⟩
    · exact ((((D6.own.set w.heap.size 0 (.slice sa' 8 sc') hRC.out).set w.heap.size 1 (.slice ra' l.length rc') hRC.out).set w.heap.size 2 (.slice wa' l.length tc') hRC.out).set w.heap.size 3 (.slice va' l.length vc') hRC.out).low (Nat.le_of_lt hRC.out)
    · exact grow_set (grow_set (grow_set (grow_set (grow_trans HG.out bw) (Nat.le_refl _) _) (Nat.le_refl _) _) (Nat.le_refl _) _) (Nat.le_refl _) _
  clear RR T0 TF
  rcases hK with rfl | rfl
  · have CR : Hid (Calls Tryz.prog 69 #[.pointer (some ⟨h, 0, none⟩), .int .i64 n, .int .i64 k] W5 fun e w' => e = .returned (.tuple #[]) ∧ DoAt w w' w3.heap.size h A.p la A.lc rc' tc' vc' sa' ra' wa' va' sc' l sh' (doX sh' l S 1 n k) g0 c1 c2 c3 w4.heap.size gr gw gv Br Bw Bv ∧ Below w3.heap.size W5 w') := read_at D5.out.1 hn hk
    clear D5
    go_wp2_with fail
    refine CR.out.mono ?_
    rintro e w6 ⟨rfl, D6, hb6⟩
    obtain ⟨z1, z2, z3, z4, v0, v1, v2, v3, vf, FF⟩ := FIN.out w6 D6 hb6
    clear FIN D6 hb6 CR s0 s1 s2
    go_wp2_with fail
    have x0 : ((((w6.setCell ⟨w.heap.size, 0, none⟩ (.slice sa' 8 sc')).setCell ⟨w.heap.size, 1, none⟩ (.slice ra' l.length rc')).setCell ⟨w.heap.size, 2, none⟩ (.slice wa' l.length tc')).setCell ⟨w.heap.size, 3, none⟩ (.slice va' l.length vc')).cell? ⟨w.heap.size, 0, none⟩ = some (.slice sa' 8 sc') := (set_off (by decide) (set_off (by decide) (set_off (by decide) (set_here v0))))
    have x1 : ((((w6.setCell ⟨w.heap.size, 0, none⟩ (.slice sa' 8 sc')).setCell ⟨w.heap.size, 1, none⟩ (.slice ra' l.length rc')).setCell ⟨w.heap.size, 2, none⟩ (.slice wa' l.length tc')).setCell ⟨w.heap.size, 3, none⟩ (.slice va' l.length vc')).cell? ⟨w.heap.size, 1, none⟩ = some (.slice ra' l.length rc') := (set_off (by decide) (set_off (by decide) (set_here (set_off (by decide) v1))))
    have x2 : ((((w6.setCell ⟨w.heap.size, 0, none⟩ (.slice sa' 8 sc')).setCell ⟨w.heap.size, 1, none⟩ (.slice ra' l.length rc')).setCell ⟨w.heap.size, 2, none⟩ (.slice wa' l.length tc')).setCell ⟨w.heap.size, 3, none⟩ (.slice va' l.length vc')).cell? ⟨w.heap.size, 2, none⟩ = some (.slice wa' l.length tc') := (set_off (by decide) (set_here (set_off (by decide) (set_off (by decide) v2))))
    have x3 : ((((w6.setCell ⟨w.heap.size, 0, none⟩ (.slice sa' 8 sc')).setCell ⟨w.heap.size, 1, none⟩ (.slice ra' l.length rc')).setCell ⟨w.heap.size, 2, none⟩ (.slice wa' l.length tc')).setCell ⟨w.heap.size, 3, none⟩ (.slice va' l.length vc')).cell? ⟨w.heap.size, 3, none⟩ = some (.slice va' l.length vc') := (set_here (set_off (by decide) (set_off (by decide) (set_off (by decide) v3))))
    generalize ((((w6.setCell ⟨w.heap.size, 0, none⟩ (.slice sa' 8 sc')).setCell ⟨w.heap.size, 1, none⟩ (.slice ra' l.length rc')).setCell ⟨w.heap.size, 2, none⟩ (.slice wa' l.length tc')).setCell ⟨w.heap.size, 3, none⟩ (.slice va' l.length vc')) = W7 at *
    refine bodyPost_ret (v := .agg #[.slice sa' 8 sc', .slice ra' l.length rc', .slice wa' l.length tc', .slice va' l.length vc']) (by simp [results, Tryz.results66, go_sem, x0, x1, x2, x3]) rfl ⟨sa', ra', wa', va', sc', rc', tc', vc', g0, c1, c2, c3, w4.heap.size, gr, gw, gv, Br, Bw, Bv, rfl, FF.out.1, FF.out.2⟩
  · have CR : Hid (Calls Tryz.prog 70 #[.pointer (some ⟨h, 0, none⟩), .int .i64 n, .int .i64 k] W5 fun e w' => e = .returned (.tuple #[]) ∧ DoAt w w' w3.heap.size h A.p la A.lc rc' tc' vc' sa' ra' wa' va' sc' l sh' (doX sh' l S 2 n k) g0 c1 c2 c3 w4.heap.size gr gw gv Br Bw Bv ∧ Below w3.heap.size W5 w') := write_at D5.out.1 hn hk
    clear D5
    go_wp2_with fail
    refine CR.out.mono ?_
    rintro e w6 ⟨rfl, D6, hb6⟩
    obtain ⟨z1, z2, z3, z4, v0, v1, v2, v3, vf, FF⟩ := FIN.out w6 D6 hb6
    clear FIN D6 hb6 CR s0 s1 s2
    go_wp2_with fail
    have x0 : ((((w6.setCell ⟨w.heap.size, 0, none⟩ (.slice sa' 8 sc')).setCell ⟨w.heap.size, 1, none⟩ (.slice ra' l.length rc')).setCell ⟨w.heap.size, 2, none⟩ (.slice wa' l.length tc')).setCell ⟨w.heap.size, 3, none⟩ (.slice va' l.length vc')).cell? ⟨w.heap.size, 0, none⟩ = some (.slice sa' 8 sc') := (set_off (by decide) (set_off (by decide) (set_off (by decide) (set_here v0))))
    have x1 : ((((w6.setCell ⟨w.heap.size, 0, none⟩ (.slice sa' 8 sc')).setCell ⟨w.heap.size, 1, none⟩ (.slice ra' l.length rc')).setCell ⟨w.heap.size, 2, none⟩ (.slice wa' l.length tc')).setCell ⟨w.heap.size, 3, none⟩ (.slice va' l.length vc')).cell? ⟨w.heap.size, 1, none⟩ = some (.slice ra' l.length rc') := (set_off (by decide) (set_off (by decide) (set_here (set_off (by decide) v1))))
    have x2 : ((((w6.setCell ⟨w.heap.size, 0, none⟩ (.slice sa' 8 sc')).setCell ⟨w.heap.size, 1, none⟩ (.slice ra' l.length rc')).setCell ⟨w.heap.size, 2, none⟩ (.slice wa' l.length tc')).setCell ⟨w.heap.size, 3, none⟩ (.slice va' l.length vc')).cell? ⟨w.heap.size, 2, none⟩ = some (.slice wa' l.length tc') := (set_off (by decide) (set_here (set_off (by decide) (set_off (by decide) v2))))
    have x3 : ((((w6.setCell ⟨w.heap.size, 0, none⟩ (.slice sa' 8 sc')).setCell ⟨w.heap.size, 1, none⟩ (.slice ra' l.length rc')).setCell ⟨w.heap.size, 2, none⟩ (.slice wa' l.length tc')).setCell ⟨w.heap.size, 3, none⟩ (.slice va' l.length vc')).cell? ⟨w.heap.size, 3, none⟩ = some (.slice va' l.length vc') := (set_here (set_off (by decide) (set_off (by decide) (set_off (by decide) v3))))
    generalize ((((w6.setCell ⟨w.heap.size, 0, none⟩ (.slice sa' 8 sc')).setCell ⟨w.heap.size, 1, none⟩ (.slice ra' l.length rc')).setCell ⟨w.heap.size, 2, none⟩ (.slice wa' l.length tc')).setCell ⟨w.heap.size, 3, none⟩ (.slice va' l.length vc')) = W7 at *
    refine bodyPost_ret (v := .agg #[.slice sa' 8 sc', .slice ra' l.length rc', .slice wa' l.length tc', .slice va' l.length vc']) (by simp [results, Tryz.results66, go_sem, x0, x1, x2, x3]) rfl ⟨sa', ra', wa', va', sc', rc', tc', vc', g0, c1, c2, c3, w4.heap.size, gr, gw, gv, Br, Bw, Bv, rfl, FF.out.1, FF.out.2⟩
end Go.Proofs.YtebjkmknhpgemaaGreat

namespace Go.Proofs.YtebjkmknhpgemaaGreat
open Go.RowKit

/-- A state of one's own, as it is handed back. -/
def OwnQ (C : Nat) (l : List TxA) (sh : Nat) (S : SA) (q : Q4) (w : World) : Prop := q.sn = 8 ∧ q.rn = l.length ∧ q.wn = l.length ∧ q.vn = l.length ∧ ∃ g0 c1 c2 c3 hi gr gw gv Br Bw Bv, OwnSt C w q.sa q.ra q.wa q.va q.sc l sh S g0 c1 c2 c3 hi gr gw gv Br Bw Bv
theorem OwnQ.set {C : Nat} {l : List TxA} {sh : Nat} {S : SA} {q : Q4} {w : World} (h : OwnQ C l sh S q w) (b j : Nat) (u : Value) (hb : b < C) : OwnQ C l sh S q (w.setCell ⟨b, j, none⟩ u) := by
  obtain ⟨e1, e2, e3, e4, g0, c1, c2, c3, hi, gr, gw, gv, Br, Bw, Bv, o⟩ := h
  exact ⟨e1, e2, e3, e4, g0, c1, c2, c3, hi, gr, gw, gv, Br, Bw, Bv, o.set b j u hb⟩
theorem OwnQ.sta {C : Nat} {l : List TxA} {sh : Nat} {S : SA} {q : Q4} {w : World} (h : OwnQ C l sh S q w) (h0 : 0 < sh) : q.sn = S.st.length ∧ q.rn = S.rd.length ∧ q.wn = S.wr.length ∧ q.vn = S.vs.length ∧ Sta w q.sa q.ra q.wa q.va S := by
  obtain ⟨e1, e2, e3, e4, g0, c1, c2, c3, hi, gr, gw, gv, Br, Bw, Bv, o⟩ := h
  exact ⟨e1.trans o.f.st.symm, e2.trans o.f.rd.symm, e3.trans o.f.wr.symm, e4.trans o.f.vs.symm, o.sta h0⟩
/-- What a caller holds of it. -/
def StaQ (S : SA) (q : Q4) (w : World) : Prop := q.sn = S.st.length ∧ q.rn = S.rd.length ∧ q.wn = S.wr.length ∧ q.vn = S.vs.length ∧ Sta w q.sa q.ra q.wa q.va S
theorem StaQ.below {S : SA} {q : Q4} {w w' : World} (h : StaQ S q w) (hb : Below w.heap.size w w') : StaQ S q w' := ⟨h.1, h.2.1, h.2.2.1, h.2.2.2.1, h.2.2.2.2.below hb⟩
/-- What it keeps behind whatever leaves the blocks from lo on as they are. -/
def StaF (lo : Nat) (S : SA) (q : Q4) (w : World) : Prop := ∀ w' : World, (∀ b, lo ≤ b → b < w.heap.size → w'.heap[b]? = w.heap[b]?) → w.heap.size ≤ w'.heap.size → StaQ S q w'
theorem StaF.sta {lo : Nat} {S : SA} {q : Q4} {w : World} (h : StaF lo S q w) : StaQ S q w := h w (fun _ _ _ => rfl) (Nat.le_refl _)
theorem StaF.set {lo : Nat} {S : SA} {q : Q4} {w : World} (h : StaF lo S q w) (b j : Nat) (u : Value) (hb : b < lo) : StaF lo S q (w.setCell ⟨b, j, none⟩ u) := fun w' h1 h2 => h w' (fun c hc hs => (h1 c hc (by rw [World.size_setCell]; exact hs)).trans (set_block w b j u c (by omega))) (by rw [World.size_setCell] at h2; exact h2)
theorem StaF.low {lo lo' : Nat} {S : SA} {q : Q4} {w : World} (h : StaF lo S q w) (hl : lo' ≤ lo) : StaF lo' S q w := fun w' h1 h2 => h w' (fun c hc hs => h1 c (Nat.le_trans hl hc) hs) h2
theorem StaF.below {lo : Nat} {S : SA} {q : Q4} {w w' : World} (h : StaF lo S q w) (hb : Below w.heap.size w w') : StaF lo S q w' := fun w2 h1 h2 => h w2 (fun c hc hs => (h1 c hc (Nat.lt_of_lt_of_le hs hb.size)).trans (hb.block c hs)) (Nat.le_trans hb.size h2)
theorem OwnQ.staF {C : Nat} {l : List TxA} {sh : Nat} {S : SA} {q : Q4} {w : World} (h : OwnQ C l sh S q w) (h0 : 0 < sh) : StaF C S q w := fun w' h1 h2 => by
  obtain ⟨e1, e2, e3, e4, g0, c1, c2, c3, hi, gr, gw, gv, Br, Bw, Bv, o⟩ := h
  have e5 := o.h5
  exact OwnQ.sta ⟨e1, e2, e3, e4, g0, c1, c2, c3, hi, gr, gw, gv, Br, Bw, Bv, o.keep (fun c hc hs => h1 c hc (by omega)) h2⟩ h0
def qNil : Q4 := ⟨none, none, none, none, 0, 0, 0, 0, 0, 0, 0, 0⟩
def SNil : SA := ⟨[], [], [], []⟩
theorem staQ_nil (w : World) : StaQ SNil qNil w := ⟨rfl, rfl, rfl, rfl, fun _ h => absurd h (Nat.not_lt_zero _), fun _ h => absurd h (Nat.not_lt_zero _), fun _ h => absurd h (Nat.not_lt_zero _), fun _ h => absurd h (Nat.not_lt_zero _)⟩
theorem staF_nil (lo : Nat) (w : World) : StaF lo SNil qNil w := fun w' _ _ => staQ_nil w'
def doE (m : Int) (l : List TxA) (S : SA) (kd n k : Int) : Int := if stE m l S = 0 then stepE m.toNat l S kd n k else stE m l S
def doS (m : Int) (l : List TxA) (S : SA) (kd n k : Int) : SA := if doE m l S kd n k = 0 then doX m.toNat l S kd.toNat n.toNat k.toNat else SNil

theorem frozen_new (w : World) (cs : Array Value) (t : TypeId) (b j : Nat) (e : b = w.heap.size) : (w.alloc (.cells cs t)).frozen? ⟨b, j, none⟩ = false := by subst e; simp
theorem below_up2 {W w' : World} {o o' : Obj} (hb : Below ((W.alloc o).alloc o').heap.size ((W.alloc o).alloc o') w') : Below (W.heap.size + 2) ((W.alloc o).alloc o') w' := by simpa using hb

variable (la : Option Addr) (lc : Nat) (l : List TxA) (sa ra wa va : Option Addr) (sc rc tc vc : Nat) (S : SA)

set_option maxRecDepth 100000 in
set_option maxHeartbeats 2000000 in
theorem stepsDo_any (m kd n k : Int) (w : World) (hl : IsTxs w la l) (hs : Sta w sa ra wa va S) :
    Calls Tryz.prog 26 #[.agg #[.int .i64 m, .slice la l.length lc], .agg #[.slice sa S.st.length sc, .slice ra S.rd.length rc, .slice wa S.wr.length tc, .slice va S.vs.length vc], .agg #[.int .i64 kd, .int .i64 n, .int .i64 k]] w fun e w' => ∃ q : Q4, e = .returned (.tuple #[.agg #[.slice q.sa q.sn q.sc, .slice q.ra q.rn q.rc, .slice q.wa q.wn q.tc, .slice q.va q.vn q.vc], .int .i64 (doE m l S kd n k)]) ∧ StaF w.heap.size (doS m l S kd n k) q w' ∧ Below w.heap.size w w' := by
  have hg : Below w.heap.size w ((((((w.alloc (.cells #[.int .i64 m, .slice la l.length lc] 24)).alloc (.cells #[.slice sa S.st.length sc, .slice ra S.rd.length rc, .slice wa S.wr.length tc, .slice va S.vs.length vc] 29)).alloc (.cells #[.int .i64 kd, .int .i64 n, .int .i64 k] 48)).alloc (.cells #[.slice none 0 0, .slice none 0 0, .slice none 0 0, .slice none 0 0] 29)).alloc (.cells #[.slice none 0 0, .slice none 0 0, .slice none 0 0, .slice none 0 0] 29)).alloc (.cells #[.int .i64 0] 30)) := (grow_alloc (grow_alloc (grow_alloc (grow_alloc (grow_alloc (grow_alloc (Below.refl _ _) _) _) _) _) _) _)
  have hU : Hid (Below w.heap.size w ((((w.alloc (.cells #[.int .i64 m, .slice la l.length lc] 24)).alloc (.cells #[.slice sa S.st.length sc, .slice ra S.rd.length rc, .slice wa S.wr.length tc, .slice va S.vs.length vc] 29)).alloc (.cells #[.int .i64 kd, .int .i64 n, .int .i64 k] 48)).alloc (.cells #[.slice none 0 0, .slice none 0 0, .slice none 0 0, .slice none 0 0] 29))) := (grow_alloc (grow_alloc (grow_alloc (grow_alloc (Below.refl _ _) _) _) _) _)
  have hmf : ∀ (fn : Fn) (first cap : Array Value) (w : World), (Instr.makeFunc fn first cap).run Tryz.prog w = .ok (.func fn first cap) w := fun _ _ _ _ => rfl
  have p0 : ((((((w.alloc (.cells #[.int .i64 m, .slice la l.length lc] 24)).alloc (.cells #[.slice sa S.st.length sc, .slice ra S.rd.length rc, .slice wa S.wr.length tc, .slice va S.vs.length vc] 29)).alloc (.cells #[.int .i64 kd, .int .i64 n, .int .i64 k] 48)).alloc (.cells #[.slice none 0 0, .slice none 0 0, .slice none 0 0, .slice none 0 0] 29)).alloc (.cells #[.slice none 0 0, .slice none 0 0, .slice none 0 0, .slice none 0 0] 29)).alloc (.cells #[.int .i64 0] 30)).cell? ⟨w.heap.size, 0, none⟩ = some (.int .i64 m) := ext_cell (grow_alloc (grow_alloc (grow_alloc (grow_alloc (grow_alloc (Below.refl _ _) _) _) _) _) _) (at_new _ _ 24 _ 0 _ (by first | rfl | simp) rfl)
  have p1 : ((((((w.alloc (.cells #[.int .i64 m, .slice la l.length lc] 24)).alloc (.cells #[.slice sa S.st.length sc, .slice ra S.rd.length rc, .slice wa S.wr.length tc, .slice va S.vs.length vc] 29)).alloc (.cells #[.int .i64 kd, .int .i64 n, .int .i64 k] 48)).alloc (.cells #[.slice none 0 0, .slice none 0 0, .slice none 0 0, .slice none 0 0] 29)).alloc (.cells #[.slice none 0 0, .slice none 0 0, .slice none 0 0, .slice none 0 0] 29)).alloc (.cells #[.int .i64 0] 30)).cell? ⟨w.heap.size, 1, none⟩ = some (.slice la l.length lc) := ext_cell (grow_alloc (grow_alloc (grow_alloc (grow_alloc (grow_alloc (Below.refl _ _) _) _) _) _) _) (at_new _ _ 24 _ 1 _ (by first | rfl | simp) rfl)
  have q0 : ((((((w.alloc (.cells #[.int .i64 m, .slice la l.length lc] 24)).alloc (.cells #[.slice sa S.st.length sc, .slice ra S.rd.length rc, .slice wa S.wr.length tc, .slice va S.vs.length vc] 29)).alloc (.cells #[.int .i64 kd, .int .i64 n, .int .i64 k] 48)).alloc (.cells #[.slice none 0 0, .slice none 0 0, .slice none 0 0, .slice none 0 0] 29)).alloc (.cells #[.slice none 0 0, .slice none 0 0, .slice none 0 0, .slice none 0 0] 29)).alloc (.cells #[.int .i64 0] 30)).cell? ⟨w.heap.size + 1, 0, none⟩ = some (.slice sa S.st.length sc) := ext_cell (grow_alloc (grow_alloc (grow_alloc (grow_alloc (Below.refl _ _) _) _) _) _) (at_new _ _ 29 _ 0 _ (by first | rfl | simp) rfl)
  have q1 : ((((((w.alloc (.cells #[.int .i64 m, .slice la l.length lc] 24)).alloc (.cells #[.slice sa S.st.length sc, .slice ra S.rd.length rc, .slice wa S.wr.length tc, .slice va S.vs.length vc] 29)).alloc (.cells #[.int .i64 kd, .int .i64 n, .int .i64 k] 48)).alloc (.cells #[.slice none 0 0, .slice none 0 0, .slice none 0 0, .slice none 0 0] 29)).alloc (.cells #[.slice none 0 0, .slice none 0 0, .slice none 0 0, .slice none 0 0] 29)).alloc (.cells #[.int .i64 0] 30)).cell? ⟨w.heap.size + 1, 1, none⟩ = some (.slice ra S.rd.length rc) := ext_cell (grow_alloc (grow_alloc (grow_alloc (grow_alloc (Below.refl _ _) _) _) _) _) (at_new _ _ 29 _ 1 _ (by first | rfl | simp) rfl)
  have q2 : ((((((w.alloc (.cells #[.int .i64 m, .slice la l.length lc] 24)).alloc (.cells #[.slice sa S.st.length sc, .slice ra S.rd.length rc, .slice wa S.wr.length tc, .slice va S.vs.length vc] 29)).alloc (.cells #[.int .i64 kd, .int .i64 n, .int .i64 k] 48)).alloc (.cells #[.slice none 0 0, .slice none 0 0, .slice none 0 0, .slice none 0 0] 29)).alloc (.cells #[.slice none 0 0, .slice none 0 0, .slice none 0 0, .slice none 0 0] 29)).alloc (.cells #[.int .i64 0] 30)).cell? ⟨w.heap.size + 1, 2, none⟩ = some (.slice wa S.wr.length tc) := ext_cell (grow_alloc (grow_alloc (grow_alloc (grow_alloc (Below.refl _ _) _) _) _) _) (at_new _ _ 29 _ 2 _ (by first | rfl | simp) rfl)
  have q3 : ((((((w.alloc (.cells #[.int .i64 m, .slice la l.length lc] 24)).alloc (.cells #[.slice sa S.st.length sc, .slice ra S.rd.length rc, .slice wa S.wr.length tc, .slice va S.vs.length vc] 29)).alloc (.cells #[.int .i64 kd, .int .i64 n, .int .i64 k] 48)).alloc (.cells #[.slice none 0 0, .slice none 0 0, .slice none 0 0, .slice none 0 0] 29)).alloc (.cells #[.slice none 0 0, .slice none 0 0, .slice none 0 0, .slice none 0 0] 29)).alloc (.cells #[.int .i64 0] 30)).cell? ⟨w.heap.size + 1, 3, none⟩ = some (.slice va S.vs.length vc) := ext_cell (grow_alloc (grow_alloc (grow_alloc (grow_alloc (Below.refl _ _) _) _) _) _) (at_new _ _ 29 _ 3 _ (by first | rfl | simp) rfl)
  have r0 : ((((((w.alloc (.cells #[.int .i64 m, .slice la l.length lc] 24)).alloc (.cells #[.slice sa S.st.length sc, .slice ra S.rd.length rc, .slice wa S.wr.length tc, .slice va S.vs.length vc] 29)).alloc (.cells #[.int .i64 kd, .int .i64 n, .int .i64 k] 48)).alloc (.cells #[.slice none 0 0, .slice none 0 0, .slice none 0 0, .slice none 0 0] 29)).alloc (.cells #[.slice none 0 0, .slice none 0 0, .slice none 0 0, .slice none 0 0] 29)).alloc (.cells #[.int .i64 0] 30)).cell? ⟨w.heap.size + 2, 0, none⟩ = some (.int .i64 kd) := ext_cell (grow_alloc (grow_alloc (grow_alloc (Below.refl _ _) _) _) _) (at_new _ _ 48 _ 0 _ (by first | rfl | simp) rfl)
  have r1 : ((((((w.alloc (.cells #[.int .i64 m, .slice la l.length lc] 24)).alloc (.cells #[.slice sa S.st.length sc, .slice ra S.rd.length rc, .slice wa S.wr.length tc, .slice va S.vs.length vc] 29)).alloc (.cells #[.int .i64 kd, .int .i64 n, .int .i64 k] 48)).alloc (.cells #[.slice none 0 0, .slice none 0 0, .slice none 0 0, .slice none 0 0] 29)).alloc (.cells #[.slice none 0 0, .slice none 0 0, .slice none 0 0, .slice none 0 0] 29)).alloc (.cells #[.int .i64 0] 30)).cell? ⟨w.heap.size + 2, 1, none⟩ = some (.int .i64 n) := ext_cell (grow_alloc (grow_alloc (grow_alloc (Below.refl _ _) _) _) _) (at_new _ _ 48 _ 1 _ (by first | rfl | simp) rfl)
  have r2 : ((((((w.alloc (.cells #[.int .i64 m, .slice la l.length lc] 24)).alloc (.cells #[.slice sa S.st.length sc, .slice ra S.rd.length rc, .slice wa S.wr.length tc, .slice va S.vs.length vc] 29)).alloc (.cells #[.int .i64 kd, .int .i64 n, .int .i64 k] 48)).alloc (.cells #[.slice none 0 0, .slice none 0 0, .slice none 0 0, .slice none 0 0] 29)).alloc (.cells #[.slice none 0 0, .slice none 0 0, .slice none 0 0, .slice none 0 0] 29)).alloc (.cells #[.int .i64 0] 30)).cell? ⟨w.heap.size + 2, 2, none⟩ = some (.int .i64 k) := ext_cell (grow_alloc (grow_alloc (grow_alloc (Below.refl _ _) _) _) _) (at_new _ _ 48 _ 2 _ (by first | rfl | simp) rfl)
  have T0 : Hid (∀ j, j < 4 → ((((w.alloc (.cells #[.int .i64 m, .slice la l.length lc] 24)).alloc (.cells #[.slice sa S.st.length sc, .slice ra S.rd.length rc, .slice wa S.wr.length tc, .slice va S.vs.length vc] 29)).alloc (.cells #[.int .i64 kd, .int .i64 n, .int .i64 k] 48)).alloc (.cells #[.slice none 0 0, .slice none 0 0, .slice none 0 0, .slice none 0 0] 29)).cell? ⟨w.heap.size + 3, j, none⟩ = some (.slice none 0 0)) := fun j hj => by
    match j, hj with
    | 0, _ => exact at_new _ _ 29 _ 0 _ (by simp) rfl
    | 1, _ => exact at_new _ _ 29 _ 1 _ (by simp) rfl
    | 2, _ => exact at_new _ _ 29 _ 2 _ (by simp) rfl
    | 3, _ => exact at_new _ _ 29 _ 3 _ (by simp) rfl
  have TF : Hid (∀ j, ((((w.alloc (.cells #[.int .i64 m, .slice la l.length lc] 24)).alloc (.cells #[.slice sa S.st.length sc, .slice ra S.rd.length rc, .slice wa S.wr.length tc, .slice va S.vs.length vc] 29)).alloc (.cells #[.int .i64 kd, .int .i64 n, .int .i64 k] 48)).alloc (.cells #[.slice none 0 0, .slice none 0 0, .slice none 0 0, .slice none 0 0] 29)).frozen? ⟨w.heap.size + 3, j, none⟩ = false) := fun j => frozen_new _ _ 29 _ j (by simp)
  have sz : Hid (((((w.alloc (.cells #[.int .i64 m, .slice la l.length lc] 24)).alloc (.cells #[.slice sa S.st.length sc, .slice ra S.rd.length rc, .slice wa S.wr.length tc, .slice va S.vs.length vc] 29)).alloc (.cells #[.int .i64 kd, .int .i64 n, .int .i64 k] 48)).alloc (.cells #[.slice none 0 0, .slice none 0 0, .slice none 0 0, .slice none 0 0] 29)).heap.size = w.heap.size + 4) := by show _ = _; simp
  have CC : Hid (Calls Tryz.prog 41 #[.func (.func 66) #[] #[.pointer (some ⟨w.heap.size, 0, none⟩), .pointer (some ⟨w.heap.size + 1, 0, none⟩), .pointer (some ⟨w.heap.size + 2, 0, none⟩)]] ((((w.alloc (.cells #[.int .i64 m, .slice la l.length lc] 24)).alloc (.cells #[.slice sa S.st.length sc, .slice ra S.rd.length rc, .slice wa S.wr.length tc, .slice va S.vs.length vc] 29)).alloc (.cells #[.int .i64 kd, .int .i64 n, .int .i64 k] 48)).alloc (.cells #[.slice none 0 0, .slice none 0 0, .slice none 0 0, .slice none 0 0] 29)) fun e w' => ∃ q : Q4, e = .returned (.tuple #[.agg #[.slice q.sa q.sn q.sc, .slice q.ra q.rn q.rc, .slice q.wa q.wn q.tc, .slice q.va q.vn q.vc], .int .i64 (doE m l S kd n k)]) ∧ StaF (w.heap.size + 4) (doS m l S kd n k) q w' ∧ Below ((((w.alloc (.cells #[.int .i64 m, .slice la l.length lc] 24)).alloc (.cells #[.slice sa S.st.length sc, .slice ra S.rd.length rc, .slice wa S.wr.length tc, .slice va S.vs.length vc] 29)).alloc (.cells #[.int .i64 kd, .int .i64 n, .int .i64 k] 48)).alloc (.cells #[.slice none 0 0, .slice none 0 0, .slice none 0 0, .slice none 0 0] 29)).heap.size ((((w.alloc (.cells #[.int .i64 m, .slice la l.length lc] 24)).alloc (.cells #[.slice sa S.st.length sc, .slice ra S.rd.length rc, .slice wa S.wr.length tc, .slice va S.vs.length vc] 29)).alloc (.cells #[.int .i64 kd, .int .i64 n, .int .i64 k] 48)).alloc (.cells #[.slice none 0 0, .slice none 0 0, .slice none 0 0, .slice none 0 0] 29)) w') := by
    by_cases hE : stE m l S = 0
    · obtain ⟨sh, rfl, h0, _⟩ := stE_zero hE
      have e1 : doE (sh : Int) l S kd n k = stepE sh l S kd n k := by unfold doE; rw [if_pos hE]; rfl
      by_cases hT : stepE sh l S kd n k = 0
      · have e2 : doS (sh : Int) l S kd n k = doX sh l S kd.toNat n.toNat k.toNat := by unfold doS; rw [e1, if_pos hT]; rfl
        rw [e1, e2, hT]
        obtain ⟨K, N, k', rfl, rfl, rfl, hK, hN, hk, _⟩ := stepE_zero hT
        refine (caughtSa_ret 66 _ (fun _ => rfl) (fun q w' => OwnQ (w.heap.size + 6) l sh (doX sh l S K N k') q w') _ (fun q w' i u j hj h => h.set j i u (by have := sz.out; omega)) ((do1_ok la lc l sa ra wa va sc rc tc vc S sh K N k' _ _ _ _ p0 p1 q0 q1 q2 q3 r0 r1 r2 (hl.below hg) (hs.below hg) hE hT hK hN hk).mono ?_)).mono ?_
        · rintro e w' ⟨sa', ra', wa', va', sc', rc', tc', vc', g0, c1, c2, c3, hi, gr, gw, gv, Br, Bw, Bv, rfl, ho, hb⟩
          refine ⟨⟨sa', ra', wa', va', 8, l.length, l.length, l.length, sc', rc', tc', vc'⟩, rfl, ⟨rfl, rfl, rfl, rfl, g0, c1, c2, c3, hi, gr, gw, gv, Br, Bw, Bv, ho.low (by first | exact Nat.le_refl _ | simp)⟩, hb⟩
        · rintro e w' ⟨q, rfl, ho, hb⟩
          exact ⟨q, rfl, (ho.staF h0).low (by omega), hb⟩
      · have e2 : doS (sh : Int) l S kd n k = SNil := by unfold doS; rw [e1, if_neg hT]
        rw [e1, e2]
        refine (caughtSa_pan 66 _ (fun _ => rfl) _ _ (do1_step la lc l sa ra wa va sc rc tc vc S sh kd n k _ _ _ _ p0 p1 q0 q1 q2 q3 r0 r1 r2 (hl.below hg) (hs.below hg) hE hT)).mono ?_
        rintro e w' ⟨rfl, hb⟩
        exact ⟨qNil, rfl, staF_nil _ _, hb⟩
    · have e1 : doE m l S kd n k = stE m l S := by unfold doE; rw [if_neg hE]
      have e2 : doS m l S kd n k = SNil := by unfold doS; rw [e1, if_neg hE]
      rw [e1, e2]
      refine (caughtSa_pan 66 _ (fun _ => rfl) _ _ (do1_pan la lc l sa ra wa va sc rc tc vc S m _ _ _ _ p0 p1 q0 q1 q2 q3 (hl.below hg) (hs.below hg) hE)).mono ?_
      rintro e w' ⟨rfl, hb⟩
      exact ⟨qNil, rfl, staF_nil _ _, hb⟩
  clear hg p0 p1 q0 q1 q2 q3 r0 r1 r2 hl hs
  go_enter Tryz.func26, Tryz.ntmps26
  go_upto_region 1 with fail
  generalize ((((w.alloc (.cells #[.int .i64 m, .slice la l.length lc] 24)).alloc (.cells #[.slice sa S.st.length sc, .slice ra S.rd.length rc, .slice wa S.wr.length tc, .slice va S.vs.length vc] 29)).alloc (.cells #[.int .i64 kd, .int .i64 n, .int .i64 k] 48)).alloc (.cells #[.slice none 0 0, .slice none 0 0, .slice none 0 0, .slice none 0 0] 29)) = W at *
  go_wp2_with fail
  refine CC.out.mono ?_
  clear CC
  rintro e w1 ⟨q, rfl, hq, hb⟩
  have t0 := ext_cell hb (T0.out 0 (by decide))
  have t1 := ext_cell hb (T0.out 1 (by decide))
  have t2 := ext_cell hb (T0.out 2 (by decide))
  have t3 := ext_cell hb (T0.out 3 (by decide))
  have tf : ∀ j, w1.frozen? ⟨w.heap.size + 3, j, none⟩ = false := fun j => (hb.frozen (p := ⟨w.heap.size + 3, j, none⟩) (by have := sz.out; show w.heap.size + 3 < _; omega)).trans (TF.out j)
  have FB : Hid (Below w.heap.size w ((((w1.setCell ⟨w.heap.size + 3, 0, none⟩ (.slice q.sa q.sn q.sc)).setCell ⟨w.heap.size + 3, 1, none⟩ (.slice q.ra q.rn q.rc)).setCell ⟨w.heap.size + 3, 2, none⟩ (.slice q.wa q.wn q.tc)).setCell ⟨w.heap.size + 3, 3, none⟩ (.slice q.va q.vn q.vc))) := grow_set (grow_set (grow_set (grow_set (grow_trans hU.out hb) (by simp) _) (by simp) _) (by simp) _) (by simp) _
  have FS : Hid (StaF w.heap.size (doS m l S kd n k) q ((((w1.setCell ⟨w.heap.size + 3, 0, none⟩ (.slice q.sa q.sn q.sc)).setCell ⟨w.heap.size + 3, 1, none⟩ (.slice q.ra q.rn q.rc)).setCell ⟨w.heap.size + 3, 2, none⟩ (.slice q.wa q.wn q.tc)).setCell ⟨w.heap.size + 3, 3, none⟩ (.slice q.va q.vn q.vc))) := ((((hq.set _ 0 _ (by omega)).set _ 1 _ (by omega)).set _ 2 _ (by omega)).set _ 3 _ (by omega)).low (by omega)
  clear hq hb T0 TF
  go_wp2_with fail
  have x0 : ((((w1.setCell ⟨w.heap.size + 3, 0, none⟩ (.slice q.sa q.sn q.sc)).setCell ⟨w.heap.size + 3, 1, none⟩ (.slice q.ra q.rn q.rc)).setCell ⟨w.heap.size + 3, 2, none⟩ (.slice q.wa q.wn q.tc)).setCell ⟨w.heap.size + 3, 3, none⟩ (.slice q.va q.vn q.vc)).cell? ⟨w.heap.size + 3, 0, none⟩ = some (.slice q.sa q.sn q.sc) := (set_off (by decide) (set_off (by decide) (set_off (by decide) (set_here t0))))
  have x1 : ((((w1.setCell ⟨w.heap.size + 3, 0, none⟩ (.slice q.sa q.sn q.sc)).setCell ⟨w.heap.size + 3, 1, none⟩ (.slice q.ra q.rn q.rc)).setCell ⟨w.heap.size + 3, 2, none⟩ (.slice q.wa q.wn q.tc)).setCell ⟨w.heap.size + 3, 3, none⟩ (.slice q.va q.vn q.vc)).cell? ⟨w.heap.size + 3, 1, none⟩ = some (.slice q.ra q.rn q.rc) := (set_off (by decide) (set_off (by decide) (set_here (set_off (by decide) t1))))
  have x2 : ((((w1.setCell ⟨w.heap.size + 3, 0, none⟩ (.slice q.sa q.sn q.sc)).setCell ⟨w.heap.size + 3, 1, none⟩ (.slice q.ra q.rn q.rc)).setCell ⟨w.heap.size + 3, 2, none⟩ (.slice q.wa q.wn q.tc)).setCell ⟨w.heap.size + 3, 3, none⟩ (.slice q.va q.vn q.vc)).cell? ⟨w.heap.size + 3, 2, none⟩ = some (.slice q.wa q.wn q.tc) := (set_off (by decide) (set_here (set_off (by decide) (set_off (by decide) t2))))
  have x3 : ((((w1.setCell ⟨w.heap.size + 3, 0, none⟩ (.slice q.sa q.sn q.sc)).setCell ⟨w.heap.size + 3, 1, none⟩ (.slice q.ra q.rn q.rc)).setCell ⟨w.heap.size + 3, 2, none⟩ (.slice q.wa q.wn q.tc)).setCell ⟨w.heap.size + 3, 3, none⟩ (.slice q.va q.vn q.vc)).cell? ⟨w.heap.size + 3, 3, none⟩ = some (.slice q.va q.vn q.vc) := (set_here (set_off (by decide) (set_off (by decide) (set_off (by decide) t3))))
  generalize ((((w1.setCell ⟨w.heap.size + 3, 0, none⟩ (.slice q.sa q.sn q.sc)).setCell ⟨w.heap.size + 3, 1, none⟩ (.slice q.ra q.rn q.rc)).setCell ⟨w.heap.size + 3, 2, none⟩ (.slice q.wa q.wn q.tc)).setCell ⟨w.heap.size + 3, 3, none⟩ (.slice q.va q.vn q.vc)) = WF at *
  refine bodyPost_ret (v := .tuple #[.agg #[.slice q.sa q.sn q.sc, .slice q.ra q.rn q.rc, .slice q.wa q.wn q.tc, .slice q.va q.vn q.vc], .int .i64 (doE m l S kd n k)]) (by simp [results, Tryz.results26, go_sem, x0, x1, x2, x3]) rfl ⟨q, rfl, FS.out, FB.out⟩
end Go.Proofs.YtebjkmknhpgemaaGreat

namespace Go.Proofs.YtebjkmknhpgemaaGreat
open Go.RowKit

/-- The blocks of rows that are being made. -/
def Foot (v : Value) (k : Nat) (len : Nat → Nat) (B : Nat → Nat) (b : Nat) : Prop := v.ownBlock = some b ∨ ∃ i, i < k ∧ 0 < len i ∧ B i = b
theorem CR.lt {T C : Nat} {w : World} {v : Value} {k : Nat} {len : Nat → Nat} {G : Nat → Nat → Value} {L : List (Option Addr × Nat × Nat)} {B : Nat → Nat} (h : CR T C w v k len G L B) {b : Nat} (hf : Foot v k len B b) : C ≤ b ∧ b < w.heap.size := by
  rcases hf with e | ⟨i, hi, hl, rfl⟩
  · exact h.o.lt b e
  · exact ⟨(h.b i hi hl).1, (h.b i hi hl).2.1⟩
theorem CR.on {T C : Nat} {w w' : World} {v : Value} {k : Nat} {len : Nat → Nat} {G : Nat → Nat → Value} {L : List (Option Addr × Nat × Nat)} {B : Nat → Nat} (h : CR T C w v k len G L B) {row : Option Nat} (hg : w.grownBy w' row) (hr : ∀ b, row = some b → ¬ Foot v k len B b) : CR T C w' v k len G L B :=
  ⟨h.n, own_kept h.o hg (fun j e q => hr j q (.inl e)), h.e, fun i hi hl => ⟨(h.b i hi hl).1, Nat.lt_of_lt_of_le (h.b i hi hl).2.1 hg.size, (h.b i hi hl).2.2⟩, h.d, fun i m hi hm => hg.cell (h.c i m hi hm) (fun q => hr (B i) q.symm (.inr ⟨i, hi, by omega, rfl⟩)), fun i m hi hl => (World.frozen?_of_block (a := ⟨B i, m, none⟩) (hg.block (B i) (h.b i hi hl).2.1 (fun q => hr (B i) q.symm (.inr ⟨i, hi, hl, rfl⟩)))).trans (h.f i m hi hl)⟩
/-- One of them grows by a row, and is stored into a cell that lies lower. -/
theorem CR.pushed {T C : Nat} {V wc w3 : World} {v v' : Value} {k : Nat} {len : Nat → Nat} {G : Nat → Nat → Value} {L : List (Option Addr × Nat × Nat)} {B : Nat → Nat} {a : Option Addr} {c g : Nat} (h : CR T C V v k len G L B) (hb : Below V.heap.size V wc)
    (ho : w3.ownsRow C T 1 v' (L.length + 1) ((L.map fun p => Value.slice p.1 p.2.1 p.2.2) ++ [.slice a (len k) c])) (hg : wc.grownBy w3 v.ownBlock) (hv : v'.ownBlock = v.ownBlock ∨ v'.ownBlock = some wc.heap.size)
    (hn : NewRow V.heap.size wc a c g (len k) (G k)) (hC : C ≤ V.heap.size) (H j : Nat) (hH : H < C) (u : Value) :
    ∃ B', CR T C (w3.setCell ⟨H, j, none⟩ u) v' (k + 1) len G (L ++ [(a, len k, c)]) B' ∧ ∀ b, Foot v' (k + 1) len B' b → Foot v k len B b ∨ V.heap.size ≤ b := by
  have h' := h.below hb
  have P := CR.push (B' := fun i => if i = k then g else B i) h' h.n ho hg hv hn hC (fun j e => (h.lt (.inl e)).2) (fun i hi hl => (h.b i hi hl).2.1) (if_pos rfl) (fun i hi => if_neg hi)
  refine ⟨_, P.on (grownBy_one w3 H j u) (fun b e q => by injection e with e; have := (P.lt q).1; omega), fun b hf => ?_⟩
  rcases hf with e | ⟨i, hi, hl, e⟩
  · rcases hv with x | x
    · exact .inl (.inl (x.symm.trans e))
    · rw [x] at e; injection e with e; have := hb.size; exact .inr (by omega)
  · by_cases q : i = k
    · subst q
      have e : (if i = i then g else B i) = b := e
      rw [if_pos rfl] at e
      exact .inr (by rw [← e]; exact (hn.e hl).2.1)
    · have e : (if i = k then g else B i) = b := e
      rw [if_neg q] at e
      exact .inl (.inr ⟨i, by omega, hl, e⟩)
/-- The others stay. -/
theorem CR.stays {T T' C : Nat} {V wc w3 : World} {v : Value} {k : Nat} {len : Nat → Nat} {G : Nat → Nat → Value} {L : List (Option Addr × Nat × Nat)} {B : Nat → Nat} {v2 : Value} {k2 : Nat} {len2 : Nat → Nat} {G2 : Nat → Nat → Value} {L2 : List (Option Addr × Nat × Nat)} {B2 : Nat → Nat} (_h : CR T C V v k len G L B) (h2 : CR T' C V v2 k2 len2 G2 L2 B2) (hb : Below V.heap.size V wc) (hg : wc.grownBy w3 v.ownBlock) (hap : ∀ b, Foot v k len B b → Foot v2 k2 len2 B2 b → False) (H j : Nat) (hH : H < C) (u : Value) : CR T' C (w3.setCell ⟨H, j, none⟩ u) v2 k2 len2 G2 L2 B2 := by
  have P := (h2.below hb).on hg (fun b e q => hap b (.inl e) q)
  exact P.on (grownBy_one w3 H j u) (fun b e q => by injection e with e; have := (P.lt q).1; omega)

/-- A state that is being begun. -/
structure Beg (w0 w : World) (B : Nat) (u0 v1 v2 v3 : Value) (k1 k2 k3 sh : Nat) (l : List TxA) (L1 L2 L3 : List (Option Addr × Nat × Nat)) (B1 B2 B3 : Nat → Nat) : Prop where
  c0 : w.cell? ⟨B, 0, none⟩ = some u0
  c1 : w.cell? ⟨B, 1, none⟩ = some v1
  c2 : w.cell? ⟨B, 2, none⟩ = some v2
  c3 : w.cell? ⟨B, 3, none⟩ = some v3
  fz : ∀ j, w.frozen? ⟨B, j, none⟩ = false
  r1 : CR 65 (B + 1) w v1 k1 (fun _ => sh) (fun _ _ => .bool false) L1 B1
  r2 : CR 65 (B + 1) w v2 k2 (fun _ => sh) (fun _ _ => .bool false) L2 B2
  r3 : CR 25 (B + 1) w v3 k3 (fun i => (gX l i).rs.length) (fun _ _ => .int .i64 0) L3 B3
  a12 : ∀ b, Foot v1 k1 (fun _ => sh) B1 b → Foot v2 k2 (fun _ => sh) B2 b → False
  a13 : ∀ b, Foot v1 k1 (fun _ => sh) B1 b → Foot v3 k3 (fun i => (gX l i).rs.length) B3 b → False
  a23 : ∀ b, Foot v2 k2 (fun _ => sh) B2 b → Foot v3 k3 (fun i => (gX l i).rs.length) B3 b → False
  bl : Below w0.heap.size w0 w
  hw : w0.heap.size ≤ B
  hs : B < w.heap.size
theorem Beg.below {w0 V : World} {B : Nat} {u0 v1 v2 v3 : Value} {k1 k2 k3 sh : Nat} {l : List TxA} {L1 L2 L3 : List (Option Addr × Nat × Nat)} {B1 B2 B3 : Nat → Nat} {w' : World} (h : Beg w0 V B u0 v1 v2 v3 k1 k2 k3 sh l L1 L2 L3 B1 B2 B3) (hb : Below V.heap.size V w') : Beg w0 w' B u0 v1 v2 v3 k1 k2 k3 sh l L1 L2 L3 B1 B2 B3 :=
  ⟨ext_cell hb h.c0, ext_cell hb h.c1, ext_cell hb h.c2, ext_cell hb h.c3, fun j => (hb.frozen (p := ⟨B, j, none⟩) h.hs).trans (h.fz j), h.r1.below hb, h.r2.below hb, h.r3.below hb, h.a12, h.a13, h.a23, grow_trans h.bl hb, h.hw, Nat.lt_of_lt_of_le h.hs hb.size⟩
theorem Beg.push1 {w0 V : World} {B : Nat} {u0 v1 v2 v3 : Value} {k1 k2 k3 sh : Nat} {l : List TxA} {L1 L2 L3 : List (Option Addr × Nat × Nat)} {B1 B2 B3 : Nat → Nat} {wc w3 : World} {v1' : Value} {a : Option Addr} {c g : Nat} (hV : Beg w0 V B u0 v1 v2 v3 k1 k2 k3 sh l L1 L2 L3 B1 B2 B3) (hb : Below V.heap.size V wc)
    (ho : w3.ownsRow (B + 1) 65 1 v1' (L1.length + 1) ((L1.map fun p => Value.slice p.1 p.2.1 p.2.2) ++ [.slice a sh c])) (hg : wc.grownBy w3 v1.ownBlock) (hv : v1'.ownBlock = v1.ownBlock ∨ v1'.ownBlock = some wc.heap.size)
    (hn : NewRow V.heap.size wc a c g sh (fun _ => .bool false)) : ∃ B', Beg w0 (w3.setCell ⟨B, 1, none⟩ v1') B u0 v1' v2 v3 (k1 + 1) k2 k3 sh l (L1 ++ [(a, sh, c)]) L2 L3 B' B2 B3 := by
  have hc := hV.below hb
  have hn : some B ≠ v1.ownBlock ∧ NewRow V.heap.size wc a c g sh (fun _ => .bool false) := ⟨fun e => by have := (hc.r1.o.lt B e.symm).1; omega, hn⟩
  obtain ⟨hn, hnr⟩ := hn
  obtain ⟨B', P1, P2⟩ := hV.r1.pushed hb ho hg hv hnr (by have := hV.hs; omega) B 1 (Nat.lt_succ_self _) v1'
  have hbl : Below w0.heap.size w0 w3 := hc.bl.grown hg hc.bl.size (fun j e => by have := (hc.r1.o.lt j e).1; have := hc.hw; omega)
  exact ⟨B', set_off (by decide) (hg.cell hc.c0 hn), set_here (hg.cell hc.c1 hn), set_off (by decide) (hg.cell hc.c2 hn), set_off (by decide) (hg.cell hc.c3 hn), fun j => by
    simp only [World.frozen?_setCell]
    exact (World.frozen?_of_block (a := ⟨B, j, none⟩) (hg.block B hc.hs hn)).trans (hc.fz j), P1, CR.stays hV.r1 hV.r2 hb hg hV.a12 B 1 (Nat.lt_succ_self _) _, CR.stays hV.r1 hV.r3 hb hg hV.a13 B 1 (Nat.lt_succ_self _) _, (fun b p q => (P2 b p).elim (fun p => hV.a12 b p q) (fun p => by have := (hV.r2.lt q).2; omega)), (fun b p q => (P2 b p).elim (fun p => hV.a13 b p q) (fun p => by have := (hV.r3.lt q).2; omega)), hV.a23, grow_set hbl hc.hw _, hc.hw, by simp only [World.size_setCell]; exact Nat.lt_of_lt_of_le hc.hs hg.size⟩
theorem Beg.push2 {w0 V : World} {B : Nat} {u0 v1 v2 v3 : Value} {k1 k2 k3 sh : Nat} {l : List TxA} {L1 L2 L3 : List (Option Addr × Nat × Nat)} {B1 B2 B3 : Nat → Nat} {wc w3 : World} {v2' : Value} {a : Option Addr} {c g : Nat} (hV : Beg w0 V B u0 v1 v2 v3 k1 k2 k3 sh l L1 L2 L3 B1 B2 B3) (hb : Below V.heap.size V wc)
    (ho : w3.ownsRow (B + 1) 65 1 v2' (L2.length + 1) ((L2.map fun p => Value.slice p.1 p.2.1 p.2.2) ++ [.slice a sh c])) (hg : wc.grownBy w3 v2.ownBlock) (hv : v2'.ownBlock = v2.ownBlock ∨ v2'.ownBlock = some wc.heap.size)
    (hn : NewRow V.heap.size wc a c g sh (fun _ => .bool false)) : ∃ B', Beg w0 (w3.setCell ⟨B, 2, none⟩ v2') B u0 v1 v2' v3 k1 (k2 + 1) k3 sh l L1 (L2 ++ [(a, sh, c)]) L3 B1 B' B3 := by
  have hc := hV.below hb
  have hn : some B ≠ v2.ownBlock ∧ NewRow V.heap.size wc a c g sh (fun _ => .bool false) := ⟨fun e => by have := (hc.r2.o.lt B e.symm).1; omega, hn⟩
  obtain ⟨hn, hnr⟩ := hn
  obtain ⟨B', P1, P2⟩ := hV.r2.pushed hb ho hg hv hnr (by have := hV.hs; omega) B 2 (Nat.lt_succ_self _) v2'
  have hbl : Below w0.heap.size w0 w3 := hc.bl.grown hg hc.bl.size (fun j e => by have := (hc.r2.o.lt j e).1; have := hc.hw; omega)
  exact ⟨B', set_off (by decide) (hg.cell hc.c0 hn), set_off (by decide) (hg.cell hc.c1 hn), set_here (hg.cell hc.c2 hn), set_off (by decide) (hg.cell hc.c3 hn), fun j => by
    simp only [World.frozen?_setCell]
    exact (World.frozen?_of_block (a := ⟨B, j, none⟩) (hg.block B hc.hs hn)).trans (hc.fz j), CR.stays hV.r2 hV.r1 hb hg (fun b p q => hV.a12 b q p) B 2 (Nat.lt_succ_self _) _, P1, CR.stays hV.r2 hV.r3 hb hg hV.a23 B 2 (Nat.lt_succ_self _) _, (fun b p q => (P2 b q).elim (fun q => hV.a12 b p q) (fun q => by have := (hV.r1.lt p).2; omega)), hV.a13, (fun b p q => (P2 b p).elim (fun p => hV.a23 b p q) (fun p => by have := (hV.r3.lt q).2; omega)), grow_set hbl hc.hw _, hc.hw, by simp only [World.size_setCell]; exact Nat.lt_of_lt_of_le hc.hs hg.size⟩
theorem Beg.push3 {w0 V : World} {B : Nat} {u0 v1 v2 v3 : Value} {k1 k2 k3 sh : Nat} {l : List TxA} {L1 L2 L3 : List (Option Addr × Nat × Nat)} {B1 B2 B3 : Nat → Nat} {wc w3 : World} {v3' : Value} {a : Option Addr} {c g : Nat} (hV : Beg w0 V B u0 v1 v2 v3 k1 k2 k3 sh l L1 L2 L3 B1 B2 B3) (hb : Below V.heap.size V wc)
    (ho : w3.ownsRow (B + 1) 25 1 v3' (L3.length + 1) ((L3.map fun p => Value.slice p.1 p.2.1 p.2.2) ++ [.slice a (gX l k3).rs.length c])) (hg : wc.grownBy w3 v3.ownBlock) (hv : v3'.ownBlock = v3.ownBlock ∨ v3'.ownBlock = some wc.heap.size)
    (hn : NewRow V.heap.size wc a c g (gX l k3).rs.length (fun _ => .int .i64 0)) : ∃ B', Beg w0 (w3.setCell ⟨B, 3, none⟩ v3') B u0 v1 v2 v3' k1 k2 (k3 + 1) sh l L1 L2 (L3 ++ [(a, (gX l k3).rs.length, c)]) B1 B2 B' := by
  have hc := hV.below hb
  have hn : some B ≠ v3.ownBlock ∧ NewRow V.heap.size wc a c g (gX l k3).rs.length (fun _ => .int .i64 0) := ⟨fun e => by have := (hc.r3.o.lt B e.symm).1; omega, hn⟩
  obtain ⟨hn, hnr⟩ := hn
  obtain ⟨B', P1, P2⟩ := hV.r3.pushed hb ho hg hv hnr (by have := hV.hs; omega) B 3 (Nat.lt_succ_self _) v3'
  have hbl : Below w0.heap.size w0 w3 := hc.bl.grown hg hc.bl.size (fun j e => by have := (hc.r3.o.lt j e).1; have := hc.hw; omega)
  exact ⟨B', set_off (by decide) (hg.cell hc.c0 hn), set_off (by decide) (hg.cell hc.c1 hn), set_off (by decide) (hg.cell hc.c2 hn), set_here (hg.cell hc.c3 hn), fun j => by
    simp only [World.frozen?_setCell]
    exact (World.frozen?_of_block (a := ⟨B, j, none⟩) (hg.block B hc.hs hn)).trans (hc.fz j), CR.stays hV.r3 hV.r1 hb hg (fun b p q => hV.a13 b q p) B 3 (Nat.lt_succ_self _) _, CR.stays hV.r3 hV.r2 hb hg (fun b p q => hV.a23 b q p) B 3 (Nat.lt_succ_self _) _, P1, hV.a12, (fun b p q => (P2 b q).elim (fun q => hV.a13 b p q) (fun q => by have := (hV.r1.lt p).2; omega)), (fun b p q => (P2 b q).elim (fun q => hV.a23 b p q) (fun q => by have := (hV.r2.lt p).2; omega)), grow_set hbl hc.hw _, hc.hw, by simp only [World.size_setCell]; exact Nat.lt_of_lt_of_le hc.hs hg.size⟩

set_option maxRecDepth 100000 in
theorem step_make {w : World} {ops : Array Oper} {o : Oper} {a : Act} {K : Act → World → Prop} {Q : Exit → Act → World → Prop} {E : Prop} (hgd : o.guard = none) (s x : Operand) (t e : TypeId)
    (ho : o.op = .makeSlice t s x) (i : TypeInfo) (z : Value) (ht : Tryz.prog.underlying t = some (.slice e)) (hi : Tryz.prog.info? e = some i) (hz : i.zero = some z) (h1 : i.size = 1) (h24 : i.bytes ≤ 24) (n : Nat) (hs : a.eval s = .int .i64 (n : Int)) (hx : a.eval x = .int .i64 (n : Int)) (hn : n ≤ 8)
    (h : K (a.put o.dst (.slice (some ⟨w.heap.size, 0, none⟩) n n)) (w.alloc (.cells (madeCells z.cells n) e))) :
    if Region.wanted o (yielded ops a.tmps) = true then Oper.wp Tryz.prog o a w K Q else E := by
  have hw : Region.wanted o (yielded ops a.tmps) = true := by simp [Region.wanted, hgd]
  rw [if_pos hw]
  have hb : (i.bytes : Int) * (n : Int) ≤ 281474976710656 := by
    have : i.bytes * n ≤ 24 * 8 := Nat.mul_le_mul h24 hn
    have h' : ((i.bytes * n : Nat) : Int) ≤ 281474976710656 := by omega
    rwa [Int.natCast_mul] at h'
  have hr := run_makeSlice (P := Tryz.prog) w t e i z ht hi hz .i64 .i64 n n (by omega) (Int.le_refl _) (by rw [h1]; simp only [Int.toNat_natCast]; omega) hb (by omega)
  simp only [Int.toNat_natCast, h1, Nat.mul_one] at hr
  unfold Oper.wp execOp
  simp only [ho, hs, hx, hr, Sem.run_bind, Sem.run_pure, Result.andThen_ok]
  exact h
theorem made_new {V : World} {z : Value} {n : Nat} {T T' : TypeId} {u : Value} (hz : z.cells = #[z]) : NewRow V.heap.size (((V.drew).alloc (.cells (madeCells z.cells n) T)).alloc (.cells #[u] T')) (some ⟨V.heap.size, 0, none⟩) n V.heap.size n (fun _ => z) := by
  refine ⟨fun _ => ⟨rfl, Nat.le_refl _, by simp; omega, fun k hk => ?_, fun k => ?_⟩, (fun e => by cases e), (fun ad e => by injection e with e; subst e; exact Nat.le_refl _)⟩
  · refine ext_cell (grow_alloc (Below.refl _ _) _) (at_new V.drew (madeCells z.cells n) T V.heap.size k z rfl ?_)
    rw [hz, ← Array.getElem?_toList, toList_madeCells_one, List.getElem?_replicate, if_pos hk]
  · exact ((grow_alloc (Below.refl _ _) _ : Below _ ((V.drew).alloc (.cells (madeCells z.cells n) T)) _).frozen (p := ⟨V.heap.size, k, none⟩) (by simp)).trans (frozen_new V.drew _ T V.heap.size k rfl)
end Go.Proofs.YtebjkmknhpgemaaGreat

namespace Go.Proofs.YtebjkmknhpgemaaGreat

/-- What a step that may be makes of a state that is as it must be. -/
theorem mayB_parts {sh : Nat} {l : List TxA} {S : SA} {kind n k : Nat} (h : mayB sh l S kind n k = true) : hasB sh l kind n k = true ∧ doneB S kind n k = false ∧ freeB sh l S kind n k = true := by
  unfold mayB at h
  simp only [Bool.and_eq_true, Bool.not_eq_true'] at h
  exact ⟨h.1.1, h.1.2, h.2⟩
theorem mayB_of {sh : Nat} {l : List TxA} {S : SA} {kind n k : Nat} (h1 : hasB sh l kind n k = true) (h2 : doneB S kind n k = false) (h3 : freeB sh l S kind n k = true) : mayB sh l S kind n k = true := by
  unfold mayB
  simp [h1, h2, h3]
theorem form_read {sh : Nat} {l : List TxA} {S : SA} {n k : Nat} (h : Form sh l S) (hn : n < l.length) : Form sh l (readX sh l S n k) := by
  refine ⟨h.st, ?_, h.wr, ?_, fun m hm => ?_, h.wn, fun m hm => ?_⟩
  · show (setB S.rd n k).length = _
    rw [setB_len]; exact h.rd
  · show (S.vs.set n _).length = _
    rw [List.length_set]; exact h.vs
  · show ((setB S.rd n k).getD m []).length = _
    rw [setB_row]; exact h.rn m hm
  · show ((S.vs.set n _).getD m []).length = _
    rw [getD_set _ _ _ _ _ (by rw [h.vs]; exact hn)]
    by_cases e : n = m
    · subst e
      rw [if_pos rfl, mixV_len]; exact h.vn n hn
    · rw [if_neg e]; exact h.vn m hm
theorem form_write {sh : Nat} {l : List TxA} {S : SA} {n k : Nat} (h : Form sh l S) : Form sh l (writeX sh l S n k) := by
  refine ⟨?_, h.rd, ?_, h.vs, h.rn, fun m hm => ?_, h.vn⟩
  · show (putSh _ _ _ _ _).length = _
    rw [putSh_len]; exact h.st
  · show (setB S.wr n k).length = _
    rw [setB_len]; exact h.wr
  · show ((setB S.wr n k).getD m []).length = _
    rw [setB_row]; exact h.wn m hm
theorem rd_read {sh : Nat} {l : List TxA} {S : SA} {n k : Nat} (h : Form sh l S) (hn : n < l.length) (hk : k < sh) (m j : Nat) : at2 (readX sh l S n k).rd m j = if n = m ∧ k = j then true else at2 S.rd m j :=
  at2_setB (by rw [h.rd]; exact hn) (by rw [h.rn n hn]; exact hk) m j
theorem wr_write {sh : Nat} {l : List TxA} {S : SA} {n k : Nat} (h : Form sh l S) (hn : n < l.length) (hk : k < sh) (m j : Nat) : at2 (writeX sh l S n k).wr m j = if n = m ∧ k = j then true else at2 S.wr m j :=
  at2_setB (by rw [h.wr]; exact hn) (by rw [h.wn n hn]; exact hk) m j
theorem rd_up {sh : Nat} {l : List TxA} {S : SA} {n k : Nat} (h : Form sh l S) (hn : n < l.length) (hk : k < sh) {m j : Nat} (hr : at2 S.rd m j = true) : at2 (readX sh l S n k).rd m j = true := by
  rw [rd_read h hn hk]; split <;> first | rfl | exact hr
theorem wr_up {sh : Nat} {l : List TxA} {S : SA} {n k : Nat} (h : Form sh l S) (hn : n < l.length) (hk : k < sh) {m j : Nat} (hr : at2 S.wr m j = true) : at2 (writeX sh l S n k).wr m j = true := by
  rw [wr_write h hn hk]; split <;> first | rfl | exact hr
theorem allRd_read {sh : Nat} {l : List TxA} {S : SA} {n k : Nat} (h : Form sh l S) (hn : n < l.length) (hk : k < sh) {m : Nat} (hr : allRd sh l S m = true) : allRd sh l (readX sh l S n k) m = true :=
  allRd_iff.2 fun j hj hp => rd_up h hn hk (allRd_iff.1 hr j hj hp)
theorem allRd_write (sh : Nat) (l : List TxA) (S : SA) (n k m : Nat) : allRd sh l (writeX sh l S n k) m = allRd sh l S m := rfl
theorem truth_read {sh : Nat} {l : List TxA} {S : SA} {n k : Nat} (h : Form sh l S) (t : Truth sh l S) (hn : n < l.length) (hk : k < sh) (hp : ptB sh (gX l n) k = true) : Truth sh l (readX sh l S n k) := by
  refine ⟨fun m j hm hj hr => ?_, fun m j hm hj hw => ?_⟩
  · rw [rd_read h hn hk] at hr
    by_cases e : n = m ∧ k = j
    · obtain ⟨rfl, rfl⟩ := e; exact hp
    · rw [if_neg e] at hr; exact t.r m j hm hj hr
  · obtain ⟨h1, h2⟩ := t.w m j hm hj hw
    exact ⟨h1, allRd_read h hn hk h2⟩
theorem truth_write {sh : Nat} {l : List TxA} {S : SA} {n k : Nat} (h : Form sh l S) (t : Truth sh l S) (hn : n < l.length) (hk : k < sh) (ha : acB sh (gX l n) k = true) (hr : allRd sh l S n = true) : Truth sh l (writeX sh l S n k) := by
  refine ⟨t.r, fun m j hm hj hw => ?_⟩
  rw [wr_write h hn hk] at hw
  by_cases e : n = m ∧ k = j
  · obtain ⟨rfl, rfl⟩ := e; exact ⟨ha, hr⟩
  · rw [if_neg e] at hw; exact t.w m j hm hj hw
theorem may_read {sh : Nat} {l : List TxA} {S : SA} {n k : Nat} (h : mayB sh l S 1 n k = true) : ptB sh (gX l n) k = true ∧ at2 S.rd n k = false ∧ blkB sh l S n k = false := by
  obtain ⟨h1, h2, h3⟩ := mayB_parts h
  exact ⟨h1, h2, by simpa [freeB] using h3⟩
theorem may_write {sh : Nat} {l : List TxA} {S : SA} {n k : Nat} (h : mayB sh l S 2 n k = true) : acB sh (gX l n) k = true ∧ at2 S.wr n k = false ∧ allRd sh l S n = true := mayB_parts h
theorem do_form {sh : Nat} {l : List TxA} {S : SA} {kind n k : Nat} (h : Form sh l S) (hn : n < l.length) : Form sh l (doX sh l S kind n k) := by
  unfold doX
  split
  · exact form_write h
  · exact form_read h hn
theorem do_truth {sh : Nat} {l : List TxA} {S : SA} {kind n k : Nat} (hkd : kind = 1 ∨ kind = 2) (h : Form sh l S) (t : Truth sh l S) (hn : n < l.length) (hk : k < sh) (hm : mayB sh l S kind n k = true) : Truth sh l (doX sh l S kind n k) := by
  rcases hkd with rfl | rfl
  · exact truth_read h t hn hk (may_read hm).1
  · exact truth_write h t hn hk (may_write hm).1 (may_write hm).2.2

/-- If it is not over something can be done, and if it is nothing. -/
theorem gone_read {sh : Nat} {l : List TxA} {S : SA} (t : Truth sh l S) {n k : Nat} (hn : n < l.length) (hk : k < sh) (hp : ptB sh (gX l n) k = true) (hg : goneB sh l S n k = true) : at2 S.rd n k = true := by
  unfold goneB at hg
  rw [if_pos hp] at hg
  cases ha : acB sh (gX l n) k
  · rw [ha] at hg; simpa using hg
  · rw [ha, if_pos rfl] at hg
    exact allRd_iff.1 (t.w n k hn hk hg).2 k hk hp
theorem over_none {sh : Nat} {l : List TxA} {S : SA} (t : Truth sh l S) (h : overB sh l S = true) : canL sh l S = [] := by
  rw [List.eq_nil_iff_forall_not_mem]
  rintro ⟨kd, n, k⟩ hx
  obtain ⟨hkd, hn, hk, hm⟩ := canL_mem.1 hx
  have hn' : n < l.length := hn
  have hk' : k < sh := hk
  have hg := overB_iff.1 h n k hn' hk'
  rcases hkd with rfl | rfl
  · obtain ⟨h1, h2, _⟩ := may_read hm
    have := gone_read t hn' hk' h1 hg
    simp only at h2
    rw [this] at h2; cases h2
  · obtain ⟨h1, h2, _⟩ := may_write hm
    simp only at h1 h2
    unfold goneB at hg
    rw [if_pos (acB_ptB hk' h1), h1, if_pos rfl, h2] at hg
    cases hg
theorem least {P : Nat → Prop} : ∀ n, P n → ∃ m, P m ∧ ∀ j, j < m → ¬ P j := by
  intro n
  induction n using Nat.strongRecOn with
  | ind n ih =>
    intro h
    by_cases e : ∃ j, j < n ∧ P j
    · obtain ⟨j, hj, hp⟩ := e; exact ih j hj hp
    · exact ⟨n, h, fun j hj hp => e ⟨j, hj, hp⟩⟩
theorem some_can {sh : Nat} {l : List TxA} {S : SA} (h : overB sh l S = false) : canL sh l S ≠ [] := by
  have h1 : ∃ n, n < l.length ∧ ∃ k, k < sh ∧ goneB sh l S n k = false := by
    apply Classical.byContradiction
    intro hc
    have : overB sh l S = true := overB_iff.2 fun n k hn hk => by
      cases e : goneB sh l S n k with
      | true => rfl
      | false => exact absurd ⟨n, hn, k, hk, e⟩ hc
    rw [this] at h; cases h
  obtain ⟨n0, hP⟩ := h1
  obtain ⟨n, ⟨hn, k, hk, hg⟩, hmin⟩ := least (P := fun n => n < l.length ∧ ∃ k, k < sh ∧ goneB sh l S n k = false) n0 hP
  have hp : ptB sh (gX l n) k = true := by
    unfold goneB at hg
    cases hp : ptB sh (gX l n) k with
    | true => rfl
    | false => rw [hp] at hg; simp at hg
  have hfree : ∀ j, j < sh → blkB sh l S n j = false := fun j hj => blkB_false.2 fun a ha _ => by
    cases e : goneB sh l S a j with
    | true => rfl
    | false => exact absurd ⟨by omega, j, hj, e⟩ (hmin a ha)
  by_cases hr : allRd sh l S n = true
  · have hrk := allRd_iff.1 hr k hk hp
    unfold goneB at hg
    rw [if_pos hp] at hg
    cases ha : acB sh (gX l n) k with
    | false => rw [ha] at hg; simp [hrk] at hg
    | true =>
      rw [ha, if_pos rfl] at hg
      exact List.ne_nil_of_mem (canL_mem.2 ⟨.inr rfl, hn, hk, mayB_of (kind := 2) ha hg hr⟩ : (2, n, k) ∈ canL sh l S)
  · have : ∃ j, j < sh ∧ ptB sh (gX l n) j = true ∧ at2 S.rd n j = false := by
      apply Classical.byContradiction
      intro hc
      refine hr (allRd_iff.2 fun j hj hpj => ?_)
      cases e : at2 S.rd n j with
      | true => rfl
      | false => exact absurd ⟨j, hj, hpj, e⟩ hc
    obtain ⟨j, hj, hpj, hrj⟩ := this
    exact List.ne_nil_of_mem (canL_mem.2 ⟨.inl rfl, hn, hj, mayB_of (kind := 1) hpj hrj (by simp [freeB, hfree j hj])⟩ : (1, n, j) ∈ canL sh l S)

/-- How many steps were done. -/
def c1 (f : Nat → Bool) : Nat → Nat
  | 0 => 0
  | j + 1 => c1 f j + (if f j then 1 else 0)
def c2 (f : Nat → Nat → Bool) (sh : Nat) : Nat → Nat
  | 0 => 0
  | n + 1 => c2 f sh n + c1 (f n) sh
theorem c1_congr (f g : Nat → Bool) : ∀ J, (∀ j, j < J → f j = g j) → c1 f J = c1 g J
  | 0, _ => rfl
  | J + 1, h => by rw [c1, c1, c1_congr f g J (fun j hj => h j (by omega)), h J (by omega)]
theorem c2_congr (f g : Nat → Nat → Bool) (sh : Nat) : ∀ N, (∀ n j, n < N → j < sh → f n j = g n j) → c2 f sh N = c2 g sh N
  | 0, _ => rfl
  | N + 1, h => by rw [c2, c2, c2_congr f g sh N (fun n j hn hj => h n j (by omega) hj), c1_congr _ _ sh (fun j hj => h N j (by omega) hj)]
theorem c1_one (f g : Nat → Bool) (k : Nat) (hf : f k = false) (hg : g k = true) : ∀ J, k < J → (∀ j, j < J → j ≠ k → f j = g j) → c1 g J = c1 f J + 1
  | 0, h, _ => by omega
  | J + 1, h, he => by
    rw [c1, c1]
    by_cases e : k = J
    · subst e
      rw [hf, hg, c1_congr g f k (fun j hj => (he j (by omega) (by omega)).symm)]
      simp
    · rw [c1_one f g k hf hg J (by omega) (fun j hj hn => he j (by omega) hn), he J (by omega) (fun h => e h.symm)]
      omega
theorem c2_one (f g : Nat → Nat → Bool) (sh m k : Nat) (hk : k < sh) (hf : f m k = false) (hg : g m k = true) : ∀ N, m < N → (∀ n j, n < N → j < sh → ¬ (n = m ∧ j = k) → f n j = g n j) → c2 g sh N = c2 f sh N + 1
  | 0, h, _ => by omega
  | N + 1, h, he => by
    rw [c2, c2]
    by_cases e : m = N
    · subst e
      rw [c2_congr g f sh m (fun n j hn hj => (he n j (by omega) hj (fun h => by omega)).symm), c1_one (f m) (g m) k hf hg sh hk (fun j hj hn => he m j (by omega) hj (fun h => hn h.2))]
      omega
    · rw [c2_one f g sh m k hk hf hg N (by omega) (fun n j hn hj hh => he n j (by omega) hj hh), c1_congr (g N) (f N) sh (fun j hj => (he N j (by omega) hj (fun h => e h.1.symm)).symm)]
      omega
theorem c1_le (f : Nat → Bool) : ∀ J, c1 f J ≤ J
  | 0 => Nat.le_refl _
  | J + 1 => by
    have := c1_le f J
    rw [c1]
    split <;> omega
theorem c2_le (f : Nat → Nat → Bool) (sh : Nat) : ∀ N, c2 f sh N ≤ N * sh
  | 0 => by simp [c2]
  | N + 1 => by
    have h1 := c2_le f sh N
    have h2 := c1_le (f N) sh
    rw [c2, Nat.succ_mul]
    omega
def cnt (sh : Nat) (l : List TxA) (S : SA) : Nat := c2 (at2 S.rd) sh l.length + c2 (at2 S.wr) sh l.length
def cntAll (sh : Nat) (l : List TxA) : Nat := c2 (fun n k => ptB sh (gX l n) k) sh l.length + c2 (fun n k => acB sh (gX l n) k) sh l.length
theorem cnt_do {sh : Nat} {l : List TxA} {S : SA} {kind n k : Nat} (hkd : kind = 1 ∨ kind = 2) (h : Form sh l S) (hn : n < l.length) (hk : k < sh) (hm : mayB sh l S kind n k = true) : cnt sh l (doX sh l S kind n k) = cnt sh l S + 1 := by
  rcases hkd with rfl | rfl
  · obtain ⟨_, h2, _⟩ := may_read hm
    show c2 (at2 (readX sh l S n k).rd) sh l.length + c2 (at2 S.wr) sh l.length = _
    rw [c2_one (at2 S.rd) (at2 (readX sh l S n k).rd) sh n k hk h2 (by rw [rd_read h hn hk, if_pos ⟨rfl, rfl⟩]) l.length hn (fun m j _ _ hh => by rw [rd_read h hn hk, if_neg (fun e => hh ⟨e.1.symm, e.2.symm⟩)])]
    unfold cnt; omega
  · obtain ⟨_, h2, _⟩ := may_write hm
    show c2 (at2 S.rd) sh l.length + c2 (at2 (writeX sh l S n k).wr) sh l.length = _
    rw [c2_one (at2 S.wr) (at2 (writeX sh l S n k).wr) sh n k hk h2 (by rw [wr_write h hn hk, if_pos ⟨rfl, rfl⟩]) l.length hn (fun m j _ _ hh => by rw [wr_write h hn hk, if_neg (fun e => hh ⟨e.1.symm, e.2.symm⟩)])]
    unfold cnt; omega
theorem cnt_le (sh : Nat) (l : List TxA) (S : SA) : cnt sh l S ≤ 2 * (l.length * sh) := by
  have h1 := c2_le (at2 S.rd) sh l.length
  have h2 := c2_le (at2 S.wr) sh l.length
  unfold cnt; omega
theorem cnt_over {sh : Nat} {l : List TxA} {S : SA} (t : Truth sh l S) (h : overB sh l S = true) : cnt sh l S = cntAll sh l := by
  have hr : ∀ n j, n < l.length → j < sh → at2 S.rd n j = ptB sh (gX l n) j := fun n j hn hj => by
    cases hp : ptB sh (gX l n) j with
    | true => exact gone_read t hn hj hp (overB_iff.1 h n j hn hj)
    | false =>
      cases e : at2 S.rd n j with
      | false => rfl
      | true => rw [t.r n j hn hj e] at hp; cases hp
  have hw : ∀ n j, n < l.length → j < sh → at2 S.wr n j = acB sh (gX l n) j := fun n j hn hj => by
    cases ha : acB sh (gX l n) j with
    | true =>
      have hg := overB_iff.1 h n j hn hj
      unfold goneB at hg
      rw [if_pos (acB_ptB hj ha), ha, if_pos rfl] at hg
      exact hg
    | false =>
      cases e : at2 S.wr n j with
      | false => rfl
      | true => rw [(t.w n j hn hj e).1] at ha; cases ha
  unfold cnt cntAll
  rw [c2_congr _ _ sh l.length hr, c2_congr _ _ sh l.length hw]
/-- What holds wherever picks have led to: what was read, and what lies there, is what lies there one after the other. -/
def serAt (s0 : List Int) (l : List TxA) (n : Nat) : List Int := serEnd s0 (l.take n)
structure Inv (sh : Nat) (l : List TxA) (s0 : List Int) (S : SA) : Prop where
  f : Form sh l S
  t : Truth sh l S
  ahead : ∀ n k, n < l.length → k < sh → at2 S.rd n k = true → ∀ m, m < n → clK sh (gX l m) (gX l n) k = true → goneB sh l S m k = true
  vals : ∀ n k, n < l.length → k < sh → at2 S.rd n k = true → ∀ i, i < (gX l n).rs.length → ((gX l n).rs.getD i 0).toNat % sh = k → (S.vs.getD n []).getD i 0 = getAt (serAt s0 l n) ((gX l n).rs.getD i 0)
  store : ∀ c j, c < 8 → j ≤ l.length → (∀ n, n < l.length → wrX (gX l n) c = true → (at2 S.wr n (c % sh) = true ↔ n < j)) → S.st.getD c 0 = (serAt s0 l j).getD c 0
theorem serAt_step (s0 : List Int) (l : List TxA) (n : Nat) (h : n < l.length) : serAt s0 l (n + 1) = aEnd (serAt s0 l n) (gX l n) := serEnd_step s0 l n h
theorem wrX_key {x : TxA} {c : Nat} (g : Good x) : wrX x c = true ↔ ∃ key ∈ keysOf x.ss, key.toNat = c := by
  unfold wrX
  rw [decide_eq_true_eq]
  constructor
  · intro h; exact ⟨_, h, by omega⟩
  · rintro ⟨key, hk, e⟩
    have := g.s key hk
    have : (c : Int) = key := by omega
    rw [this]; exact hk
theorem serAt_skip {l : List TxA} (hg : ∀ n, n < l.length → Good (gX l n)) (s0 : List Int) (c n : Nat) : ∀ j, n ≤ j → j ≤ l.length → (∀ m, n ≤ m → m < j → wrX (gX l m) c = false) → (serAt s0 l j).getD c 0 = (serAt s0 l n).getD c 0
  | 0, h, _, _ => by
    have : n = 0 := by omega
    subst this; rfl
  | j + 1, h, hj, hw => by
    by_cases e : n = j + 1
    · subst e; rfl
    · rw [serAt_step s0 l j (by omega)]
      unfold aEnd
      rw [putAll_far _ _ _ _ (fun key hk ek => by
        have := (wrX_key (hg j (by omega))).2 ⟨key, hk, ek⟩
        rw [hw j (by omega) (by omega)] at this; cases this)]
      exact serAt_skip hg s0 c n j (by omega) (by omega) (fun m h1 h2 => hw m h1 (by omega))
theorem clK_of {sh : Nat} {x y : TxA} {c : Nat} (h8 : c < 8) (h : clashAt x y c = true) : clK sh x y (c % sh) = true := clK_iff.2 ⟨c, h8, rfl, h⟩
theorem clash_wr {x y : TxA} {c : Nat} (h : wrX x c = true) (h' : hasX y c = true) : clashAt x y c = true := by
  rw [clashAt_has]; simp [hasX, h] ; simpa [hasX] using h'
theorem clash_rw {x y : TxA} {c : Nat} (h : hasX x c = true) (h' : wrX y c = true) : clashAt x y c = true := by
  rw [clashAt_symm]; exact clash_wr h' h
theorem gone_wr {sh : Nat} {l : List TxA} {S : SA} {m c : Nat} (hsh : 0 < sh) (h8 : c < 8) (hw : wrX (gX l m) c = true) (hg : goneB sh l S m (c % sh) = true) : at2 S.wr m (c % sh) = true := by
  have ha : acB sh (gX l m) (c % sh) = true := (acB_iff (Nat.mod_lt _ hsh)).2 ⟨c, h8, hw, rfl⟩
  unfold goneB at hg
  rw [if_pos (acB_ptB (Nat.mod_lt _ hsh) ha), ha, if_pos rfl] at hg
  exact hg
theorem wr_rd {sh : Nat} {l : List TxA} {S : SA} (t : Truth sh l S) {m k : Nat} (hm : m < l.length) (hk : k < sh) (hw : at2 S.wr m k = true) : at2 S.rd m k = true := by
  obtain ⟨h1, h2⟩ := t.w m k hm hk hw
  exact allRd_iff.1 h2 k hk (acB_ptB hk h1)
/-- Who is ahead, not gone, keeps those behind from having written. -/
theorem none_behind {sh : Nat} {l : List TxA} {s0 : List Int} {S : SA} (hsh : 0 < sh) (I : Inv sh l s0 S) {n m c : Nat} (h8 : c < 8) (hnm : n < m) (hm : m < l.length) (hn : hasX (gX l n) c = true) (hw : wrX (gX l m) c = true) (hg : goneB sh l S n (c % sh) = false) : at2 S.wr m (c % sh) = false := by
  cases e : at2 S.wr m (c % sh) with
  | false => rfl
  | true =>
    have hk : c % sh < sh := Nat.mod_lt _ hsh
    have := I.ahead m (c % sh) hm hk (wr_rd I.t hm hk e) n hnm (clK_of h8 (clash_rw hn hw))
    rw [this] at hg; cases hg
theorem not_gone_unread {sh : Nat} {l : List TxA} {S : SA} (t : Truth sh l S) {n k : Nat} (hn : n < l.length) (hk : k < sh) (hp : ptB sh (gX l n) k = true) (hr : at2 S.rd n k = false) : goneB sh l S n k = false := by
  cases e : goneB sh l S n k with
  | false => rfl
  | true => rw [gone_read t hn hk hp e] at hr; cases hr
theorem gone_up_read {sh : Nat} {l : List TxA} {S : SA} {n k m j : Nat} (h : Form sh l S) (hn : n < l.length) (hk : k < sh) (hg : goneB sh l S m j = true) : goneB sh l (readX sh l S n k) m j = true := by
  unfold goneB at hg ⊢
  cases hp : ptB sh (gX l m) j
  · rfl
  · rw [hp, if_pos rfl] at hg
    rw [if_pos rfl]
    cases ha : acB sh (gX l m) j
    · rw [ha] at hg; exact rd_up h hn hk hg
    · rw [ha] at hg; exact hg
theorem gone_up_write {sh : Nat} {l : List TxA} {S : SA} {n k m j : Nat} (h : Form sh l S) (hn : n < l.length) (hk : k < sh) (hg : goneB sh l S m j = true) : goneB sh l (writeX sh l S n k) m j = true := by
  unfold goneB at hg ⊢
  cases hp : ptB sh (gX l m) j
  · rfl
  · rw [hp, if_pos rfl] at hg
    rw [if_pos rfl]
    cases ha : acB sh (gX l m) j
    · rw [ha] at hg; exact hg
    · rw [ha] at hg; exact wr_up h hn hk hg
theorem rs_has {x : TxA} {i : Nat} (g : Good x) (hi : i < x.rs.length) : hasX x (x.rs.getD i 0).toNat = true ∧ (x.rs.getD i 0).toNat < 8 := by
  have hm : x.rs.getD i 0 ∈ x.rs := by simp [List.getD, hi]
  have := g.r _ hm
  refine ⟨?_, by omega⟩
  unfold hasX rdX
  rw [show (((x.rs.getD i 0).toNat : Nat) : Int) = x.rs.getD i 0 by omega, decide_eq_true hm]
  rfl
theorem inv_read {sh : Nat} {l : List TxA} {s0 : List Int} {S : SA} (hsh : 0 < sh) (hg : ∀ n, n < l.length → Good (gX l n)) (I : Inv sh l s0 S) {n k : Nat} (hn : n < l.length) (hk : k < sh) (hm : mayB sh l S 1 n k = true) : Inv sh l s0 (readX sh l S n k) := by
  obtain ⟨hp, hr, hb⟩ := may_read hm
  refine ⟨form_read I.f hn, truth_read I.f I.t hn hk hp, fun a j ha hj hrd m hma hc => ?_, fun a j ha hj hrd i hi he => ?_, I.store⟩
  · rw [rd_read I.f hn hk] at hrd
    refine gone_up_read I.f hn hk ?_
    by_cases e : n = a ∧ k = j
    · obtain ⟨rfl, rfl⟩ := e
      exact blkB_false.1 hb m hma hc
    · rw [if_neg e] at hrd; exact I.ahead a j ha hj hrd m hma hc
  · show ((S.vs.set n _).getD a []).getD i 0 = _
    rw [getD_set _ _ _ _ _ (by rw [I.f.vs]; exact hn)]
    by_cases e : n = a
    · subst e
      rw [if_pos rfl, mixV_get sh k S.st _ _ i hi (by rw [I.f.vn n hn]; exact hi)]
      by_cases ek : ((gX l n).rs.getD i 0).toNat % sh = k
      · rw [if_pos ek]
        obtain ⟨hh, h8⟩ := rs_has (hg n hn) hi
        show S.st.getD ((gX l n).rs.getD i 0).toNat 0 = (serAt s0 l n).getD ((gX l n).rs.getD i 0).toNat 0
        refine I.store _ n h8 (by omega) fun m hm' hw => ?_
        have hng : goneB sh l S n (((gX l n).rs.getD i 0).toNat % sh) = false := by rw [ek]; exact not_gone_unread I.t hn hk hp hr
        constructor
        · intro hwr
          apply Classical.byContradiction
          intro hle
          by_cases em : m = n
          · subst em
            have := wr_rd I.t hm' (by rw [ek]; exact hk) hwr
            rw [ek, hr] at this; cases this
          · rw [none_behind hsh I h8 (by omega) hm' hh hw hng] at hwr; cases hwr
        · intro hlt
          refine gone_wr hsh h8 hw ?_
          rw [ek]
          refine blkB_false.1 hb m hlt ?_
          rw [← ek]
          exact clK_of h8 (clash_wr hw hh)
      · rw [if_neg ek]
        rw [rd_read I.f hn hk, if_neg (fun h => ek (by rw [he]; exact h.2.symm))] at hrd
        exact I.vals n j ha hj hrd i hi he
    · rw [if_neg e]
      rw [rd_read I.f hn hk, if_neg (fun h => e h.1)] at hrd
      exact I.vals a j ha hj hrd i hi he
theorem get_some (l : List Int) (i : Nat) (h : i < l.length) : l[i]? = some (l.getD i 0) := by simp [List.getD, h]
theorem vals_all {sh : Nat} {l : List TxA} {s0 : List Int} {S : SA} (hsh : 0 < sh) (hg : ∀ n, n < l.length → Good (gX l n)) (I : Inv sh l s0 S) {n : Nat} (hn : n < l.length) (hr : allRd sh l S n = true) : S.vs.getD n [] = rdOf (serAt s0 l n) (gX l n).rs := by
  have hlen := I.f.vn n hn
  apply List.ext_getElem?
  intro i
  by_cases hi : i < (gX l n).rs.length
  · obtain ⟨hh, h8⟩ := rs_has (hg n hn) hi
    have hk : ((gX l n).rs.getD i 0).toNat % sh < sh := Nat.mod_lt _ hsh
    have h1 := I.vals n _ hn hk (allRd_iff.1 hr _ hk ((ptB_iff hk).2 ⟨_, h8, hh, rfl⟩)) i hi rfl
    have hi2 : i < (S.vs.getD n []).length := by omega
    have e1 : (S.vs.getD n [])[i]? = some ((S.vs.getD n []).getD i 0) := get_some _ _ hi2
    rw [e1, h1]
    simp [rdOf, hi]
  · rw [List.getElem?_eq_none (by omega), List.getElem?_eq_none (by simp [rdOf]; omega)]
theorem inv_write {sh : Nat} {l : List TxA} {s0 : List Int} {S : SA} (hsh : 0 < sh) (h0 : s0.length = 8) (hg : ∀ n, n < l.length → Good (gX l n)) (I : Inv sh l s0 S) {n k : Nat} (hn : n < l.length) (hk : k < sh) (hm : mayB sh l S 2 n k = true) : Inv sh l s0 (writeX sh l S n k) := by
  obtain ⟨ha, hw, hr⟩ := may_write hm
  refine ⟨form_write I.f, truth_write I.f I.t hn hk ha hr, fun a j ha' hj hrd m hma hc => gone_up_write I.f hn hk (I.ahead a j ha' hj hrd m hma hc), I.vals, fun c j h8 hj hcond => ?_⟩
  have hng : goneB sh l S n k = false := by
    unfold goneB
    rw [if_pos (acB_ptB hk ha), ha, if_pos rfl, hw]
  show (putSh sh k S.st (keysOf (gX l n).ss) (madeOf (S.vs.getD n []) (gX l n).gs (gX l n).ss)).getD c 0 = _
  by_cases hit : wrX (gX l n) c = true ∧ c % sh = k
  · obtain ⟨hwc, hck⟩ := hit
    have hlt : n < j := (hcond n hn hwc).1 (by rw [hck, wr_write I.f hn hk, if_pos ⟨rfl, rfl⟩])
    have hbehind : ∀ m, n < m → m < l.length → wrX (gX l m) c = true → at2 S.wr m (c % sh) = false := fun m hnm hml hwm =>
      none_behind hsh I h8 hnm hml (by simp [hasX, hwc]) hwm (by rw [hck]; exact hng)
    have hold : S.st.getD c 0 = (serAt s0 l n).getD c 0 := by
      refine I.store c n h8 (by omega) fun m hml hwm => ?_
      constructor
      · intro hwr
        apply Classical.byContradiction
        intro hle
        by_cases em : m = n
        · subst em; rw [hck, hw] at hwr; cases hwr
        · rw [hbehind m (by omega) hml hwm] at hwr; cases hwr
      · intro hlt'
        have := (hcond m hml hwm).2 (by omega)
        rw [wr_write I.f hn hk, if_neg (fun h => by omega)] at this
        exact this
    have hskip : (serAt s0 l j).getD c 0 = (serAt s0 l (n + 1)).getD c 0 := by
      refine serAt_skip hg s0 c (n + 1) j (by omega) hj fun m h1 h2 => ?_
      cases e : wrX (gX l m) c with
      | false => rfl
      | true =>
        have := (hcond m (by omega) e).2 h2
        rw [wr_write I.f hn hk, if_neg (fun h => by omega), hbehind m (by omega) (by omega) e] at this
        cases this
    rw [hskip, serAt_step s0 l n hn, vals_all hsh hg I hn hr]
    exact putSh_at sh k c hck _ _ _ _ (by rw [I.f.st]; unfold serAt; rw [serEnd_len, h0]) hold
  · have hfar : (putSh sh k S.st (keysOf (gX l n).ss) (madeOf (S.vs.getD n []) (gX l n).gs (gX l n).ss)).getD c 0 = S.st.getD c 0 :=
      putSh_far sh k c _ _ _ fun key hkey e1 e2 => hit ⟨(wrX_key (hg n hn)).2 ⟨key, hkey, e2⟩, by rw [← e2]; exact e1⟩
    rw [hfar]
    refine I.store c j h8 hj fun m hml hwm => ?_
    rw [← hcond m hml hwm, wr_write I.f hn hk]
    by_cases e : n = m ∧ k = c % sh
    · exact absurd ⟨by rw [e.1]; exact hwm, e.2.symm⟩ hit
    · rw [if_neg e]
theorem inv_do {sh : Nat} {l : List TxA} {s0 : List Int} {S : SA} (hsh : 0 < sh) (h0 : s0.length = 8) (hg : ∀ n, n < l.length → Good (gX l n)) (I : Inv sh l s0 S) {kind n k : Nat} (hkd : kind = 1 ∨ kind = 2) (hn : n < l.length) (hk : k < sh) (hm : mayB sh l S kind n k = true) : Inv sh l s0 (doX sh l S kind n k) := by
  rcases hkd with rfl | rfl
  · exact inv_read hsh hg I hn hk hm
  · exact inv_write hsh h0 hg I hn hk hm
theorem inv_over {sh : Nat} {l : List TxA} {s0 : List Int} {S : SA} (hsh : 0 < sh) (h0 : s0.length = 8) (hg : ∀ n, n < l.length → Good (gX l n)) (I : Inv sh l s0 S) (h : overB sh l S = true) : S.st = serEnd s0 l ∧ ∀ n, n < l.length → S.vs.getD n [] = rdOf (serAt s0 l n) (gX l n).rs := by
  constructor
  · have h8 := I.f.st
    have h8' : (serEnd s0 l).length = 8 := by rw [serEnd_len, h0]
    apply List.ext_getElem?
    intro c
    by_cases hc : c < 8
    · have := I.store c l.length hc (Nat.le_refl _) fun n hn hw => ⟨fun _ => hn, fun _ => gone_wr hsh hc hw (overB_iff.1 h n _ hn (Nat.mod_lt _ hsh))⟩
      have e : serAt s0 l l.length = serEnd s0 l := by unfold serAt; rw [List.take_length]
      rw [e] at this
      simpa [List.getD, h8, h8', hc] using this
    · rw [List.getElem?_eq_none (by omega), List.getElem?_eq_none (by omega)]
  · intro n hn
    exact vals_all hsh hg I hn (allRd_iff.2 fun k hk hp => gone_read I.t hn hk hp (overB_iff.1 h n k hn hk))
/-- The beginning. -/
def begX (sh : Nat) (l : List TxA) (s : List Int) : SA := ⟨s, l.map fun _ => List.replicate sh false, l.map fun _ => List.replicate sh false, l.map fun x => List.replicate x.rs.length 0⟩
theorem at2_beg (sh : Nat) (l : List TxA) (n k : Nat) : at2 (l.map fun _ => List.replicate sh false) n k = false := by
  unfold at2
  simp only [List.getD, List.getElem?_map]
  cases l[n]? with
  | none => rfl
  | some x => simp [List.getElem?_replicate]; split <;> rfl
theorem inv_beg (sh : Nat) (l : List TxA) (s : List Int) (h8 : s.length = 8) (hg : ∀ n, n < l.length → Good (gX l n)) : Inv sh l s (begX sh l s) := by
  have hr : ∀ n k, at2 (begX sh l s).rd n k = false := at2_beg sh l
  have hw : ∀ n k, at2 (begX sh l s).wr n k = false := at2_beg sh l
  refine ⟨⟨h8, by simp [begX], by simp [begX], by simp [begX], fun n hn => ?_, fun n hn => ?_, fun n hn => ?_⟩, ⟨fun n k _ _ h => ?_, fun n k _ _ h => ?_⟩, fun n k _ _ h => ?_, fun n k _ _ h => ?_, fun c j _ hj h => ?_⟩
  · simp [begX, List.getD, hn]
  · simp [begX, List.getD, hn]
  · simp [begX, gX, List.getD, hn]
  · rw [hr] at h; cases h
  · rw [hw] at h; cases h
  · rw [hr] at h; cases h
  · rw [hr] at h; cases h
  · show s.getD c 0 = _
    unfold serAt
    have : ∀ j, j ≤ l.length → (∀ n, n < l.length → wrX (gX l n) c = true → ¬ n < j) → (serEnd s (l.take j)).getD c 0 = s.getD c 0 := by
      intro j
      induction j with
      | zero => intro _ _; rfl
      | succ j ih =>
        intro hj hh
        rw [serEnd_step s l j (by omega)]
        have hno : wrX (gX l j) c = false := by
          cases e : wrX (gX l j) c with
          | false => rfl
          | true => exact absurd (Nat.lt_succ_self j) (hh j (by omega) e)
        unfold aEnd
        rw [putAll_far _ _ _ _ (fun key hk ek => ?_)]
        · exact ih (by omega) fun n hn hwn hlt => hh n hn hwn (by omega)
        · rw [(wrX_key (hg j (by omega))).2 ⟨key, hk, ek⟩] at hno; cases hno
    rw [this j hj fun n hn hwn hlt => by
      have := (h n hn hwn).2 hlt
      rw [hw] at this; cases this]
/-- Of two steps that can be done which is first does not matter. -/
theorem setB_out (R : List (List Bool)) (n k : Nat) (h : R.length ≤ n) : setB R n k = R := by
  unfold setB
  rw [List.set_eq_of_length_le h]
theorem setB_comm (R : List (List Bool)) (n k m j : Nat) : setB (setB R n k) m j = setB (setB R m j) n k := by
  by_cases hn : n < R.length
  · by_cases hm : m < R.length
    · unfold setB
      rw [getD_set R n m _ _ hn, getD_set R m n _ _ hm]
      by_cases e : n = m
      · subst e
        rw [if_pos rfl, if_pos rfl, List.set_set, List.set_set]
        by_cases ek : k = j
        · subst ek; rfl
        · rw [List.set_comm _ _ ek]
      · rw [if_neg e, if_neg (fun h => e h.symm), List.set_comm _ _ e]
    · rw [setB_out _ m j (by rw [setB_len]; omega), setB_out _ m j (by omega)]
  · rw [setB_out R n k (by omega), setB_out _ n k (by rw [setB_len]; omega)]
theorem mixV_comm (sh : Nat) (s : List Int) {k j : Nat} (h : k ≠ j) : ∀ (rs vs : List Int), mixV sh k s rs (mixV sh j s rs vs) = mixV sh j s rs (mixV sh k s rs vs)
  | [], vs => by cases vs <;> rfl
  | r :: rs, [] => rfl
  | r :: rs, v :: vs => by
    simp only [mixV, mixV_comm sh s h rs vs]
    by_cases e1 : r.toNat % sh = k
    · have e2 : ¬ r.toNat % sh = j := fun e2 => h (by rw [← e1, e2])
      simp [e1, h]
    · simp [e1]
theorem mixV_store (sh k : Nat) (s s' : List Int) : ∀ (rs vs : List Int), (∀ r ∈ rs, r.toNat % sh = k → getAt s r = getAt s' r) → mixV sh k s rs vs = mixV sh k s' rs vs
  | [], vs, _ => by cases vs <;> rfl
  | r :: rs, [], _ => rfl
  | r :: rs, v :: vs, h => by
    simp only [mixV, mixV_store sh k s s' rs vs (fun r' hr => h r' (List.mem_cons_of_mem _ hr))]
    by_cases e : r.toNat % sh = k
    · rw [if_pos e, if_pos e, h r List.mem_cons_self e]
    · rw [if_neg e, if_neg e]
theorem putSh_set (sh k : Nat) : ∀ (ks s vs : List Int) (i : Nat) (v : Int), (∀ key ∈ ks, key.toNat % sh = k → key.toNat ≠ i) → putSh sh k (s.set i v) ks vs = (putSh sh k s ks vs).set i v
  | [], s, vs, i, v, _ => by cases vs <;> rfl
  | key :: ks, s, [], i, v, _ => rfl
  | key :: ks, s, u :: vs, i, v, h => by
    rw [putSh, putSh]
    by_cases e : key.toNat % sh = k
    · rw [if_pos e, if_pos e, List.set_comm _ _ (fun e' => h key List.mem_cons_self e e'.symm), putSh_set sh k ks _ vs i v (fun k' hk => h k' (List.mem_cons_of_mem _ hk))]
    · rw [if_neg e, if_neg e, putSh_set sh k ks _ vs i v (fun k' hk => h k' (List.mem_cons_of_mem _ hk))]
theorem putSh_comm (sh k j : Nat) : ∀ (ks s vs ks' vs' : List Int), (∀ a ∈ ks, a.toNat % sh = k → ∀ b ∈ ks', b.toNat % sh = j → b.toNat ≠ a.toNat) → putSh sh j (putSh sh k s ks vs) ks' vs' = putSh sh k (putSh sh j s ks' vs') ks vs
  | [], s, vs, ks', vs', _ => by cases vs <;> rfl
  | key :: ks, s, [], ks', vs', _ => rfl
  | key :: ks, s, v :: vs, ks', vs', h => by
    rw [putSh, putSh]
    have h' : ∀ a ∈ ks, a.toNat % sh = k → ∀ b ∈ ks', b.toNat % sh = j → b.toNat ≠ a.toNat := fun a ha => h a (List.mem_cons_of_mem _ ha)
    by_cases e : key.toNat % sh = k
    · rw [if_pos e, if_pos e, putSh_comm sh k j ks _ vs ks' vs' h', putSh_set sh j ks' s vs' key.toNat v (fun b hb eb => h key List.mem_cons_self e b hb eb)]
    · rw [if_neg e, if_neg e, putSh_comm sh k j ks _ vs ks' vs' h']
theorem key_wr {x : TxA} {c : Nat} (g : Good x) {key : Int} (h : key ∈ keysOf x.ss) (e : key.toNat = c) : wrX x c = true ∧ c < 8 := ⟨(wrX_key g).2 ⟨key, h, e⟩, by have := g.s key h; omega⟩
theorem read_has {x : TxA} (g : Good x) {r : Int} (h : r ∈ x.rs) : hasX x r.toNat = true ∧ r.toNat < 8 := by
  have := g.r r h
  refine ⟨?_, by omega⟩
  unfold hasX rdX
  rw [show ((r.toNat : Nat) : Int) = r by omega, decide_eq_true h]
  rfl
/-- What still may be, behind another step. -/
theorem still {sh : Nat} {l : List TxA} {S : SA} (f : Form sh l S) {kx n k ky m j : Nat} (hkx : kx = 1 ∨ kx = 2) (hky : ky = 1 ∨ ky = 2) (hn : n < l.length) (hk : k < sh) (hy : mayB sh l S ky m j = true) (hne : ¬ (kx = ky ∧ n = m ∧ k = j)) : mayB sh l (doX sh l S kx n k) ky m j = true := by
  rcases hkx with rfl | rfl <;> rcases hky with rfl | rfl
  · obtain ⟨h1, h2, h3⟩ := may_read hy
    refine mayB_of h1 ?_ ?_
    · show at2 (readX sh l S n k).rd m j = false
      rw [rd_read f hn hk, if_neg (fun e => hne ⟨rfl, e.1, e.2⟩)]; exact h2
    · have : blkB sh l (readX sh l S n k) m j = false := blkB_false.2 fun a ha hc => gone_up_read f hn hk (blkB_false.1 h3 a ha hc)
      show freeB sh l (readX sh l S n k) 1 m j = true
      simp [freeB, this]
  · obtain ⟨h1, h2, h3⟩ := may_write hy
    exact mayB_of (kind := 2) h1 h2 (allRd_read f hn hk h3)
  · obtain ⟨h1, h2, h3⟩ := may_read hy
    refine mayB_of h1 h2 ?_
    have : blkB sh l (writeX sh l S n k) m j = false := blkB_false.2 fun a ha hc => gone_up_write f hn hk (blkB_false.1 h3 a ha hc)
    show freeB sh l (writeX sh l S n k) 1 m j = true
    simp [freeB, this]
  · obtain ⟨h1, h2, h3⟩ := may_write hy
    refine mayB_of (kind := 2) h1 ?_ h3
    show at2 (writeX sh l S n k).wr m j = false
    rw [wr_write f hn hk, if_neg (fun e => hne ⟨rfl, e.1, e.2⟩)]; exact h2
theorem comm_rr {sh : Nat} {l : List TxA} {S : SA} (f : Form sh l S) {n k m j : Nat} (hn : n < l.length) (hm : m < l.length) (hne : ¬ (n = m ∧ k = j)) : readX sh l (readX sh l S n k) m j = readX sh l (readX sh l S m j) n k := by
  unfold readX
  simp only [SA.mk.injEq, true_and]
  refine ⟨setB_comm _ _ _ _ _, ?_⟩
  rw [getD_set _ _ _ _ _ (by rw [f.vs]; exact hn), getD_set _ _ _ _ _ (by rw [f.vs]; exact hm)]
  by_cases e : n = m
  · subst e
    rw [if_pos rfl, if_pos rfl, List.set_set, List.set_set, mixV_comm sh S.st (fun ek => hne ⟨rfl, ek.symm⟩)]
  · rw [if_neg e, if_neg (fun h => e h.symm), List.set_comm _ _ e]
theorem comm_rw {sh : Nat} {l : List TxA} {s0 : List Int} {S : SA} (hsh : 0 < sh) (hg : ∀ n, n < l.length → Good (gX l n)) (I : Inv sh l s0 S) {n k m j : Nat} (hn : n < l.length) (hk : k < sh) (hm : m < l.length) (hj : j < sh) (hx : mayB sh l S 1 n k = true) (hy : mayB sh l S 2 m j = true) : writeX sh l (readX sh l S n k) m j = readX sh l (writeX sh l S m j) n k := by
  obtain ⟨a1, a2, a3⟩ := may_read hx
  obtain ⟨b1, b2, b3⟩ := may_write hy
  have hnm : n ≠ m := fun e => by
    subst e
    rw [allRd_iff.1 b3 k hk a1] at a2; cases a2
  have hmix : mixV sh k (putSh sh j S.st (keysOf (gX l m).ss) (madeOf (S.vs.getD m []) (gX l m).gs (gX l m).ss)) (gX l n).rs (S.vs.getD n []) = mixV sh k S.st (gX l n).rs (S.vs.getD n []) := by
    refine mixV_store sh k _ _ _ _ fun r hr er => ?_
    show (putSh sh j S.st _ _).getD r.toNat 0 = S.st.getD r.toNat 0
    refine putSh_far sh j r.toNat _ _ _ fun key hkey e1 e2 => ?_
    obtain ⟨hw, _⟩ := key_wr (hg m hm) hkey e2
    obtain ⟨hh, h8⟩ := read_has (hg n hn) hr
    have ejk : k = j := by rw [← er, ← e1, e2]
    subst ejk
    rcases Nat.lt_or_gt_of_ne hnm with hlt | hlt
    · have hng := not_gone_unread I.t hn hk a1 a2
      have := I.ahead m k hm hk (allRd_iff.1 b3 k hk (acB_ptB hk b1)) n hlt (by rw [← er]; exact clK_of h8 (clash_rw hh hw))
      rw [hng] at this; cases this
    · have := blkB_false.1 a3 m hlt (by rw [← er]; exact clK_of h8 (clash_wr hw hh))
      rw [← er] at this b2
      rw [gone_wr hsh h8 hw this] at b2; cases b2
  unfold writeX readX
  simp only [SA.mk.injEq, true_and]
  rw [hmix, getD_set _ _ _ _ _ (by rw [I.f.vs]; exact hn), if_neg hnm]
  exact ⟨rfl, rfl⟩
theorem comm_ww {sh : Nat} {l : List TxA} {s0 : List Int} {S : SA} (hg : ∀ n, n < l.length → Good (gX l n)) (I : Inv sh l s0 S) {n k m j : Nat} (hn : n < l.length) (hk : k < sh) (hm : m < l.length) (hj : j < sh) (hx : mayB sh l S 2 n k = true) (hy : mayB sh l S 2 m j = true) (hne : ¬ (n = m ∧ k = j)) : writeX sh l (writeX sh l S n k) m j = writeX sh l (writeX sh l S m j) n k := by
  obtain ⟨a1, a2, a3⟩ := may_write hx
  obtain ⟨b1, b2, b3⟩ := may_write hy
  unfold writeX
  simp only [SA.mk.injEq, true_and]
  refine ⟨?_, setB_comm _ _ _ _ _, trivial⟩
  refine putSh_comm sh k j _ _ _ _ _ fun a ha ea b hb eb e => ?_
  obtain ⟨hwn, h8⟩ := key_wr (hg n hn) ha rfl
  obtain ⟨hwm, _⟩ := key_wr (hg m hm) hb e
  have ekj : k = j := by rw [← ea, ← eb, e]
  subst ekj
  have hng : goneB sh l S n k = false := by unfold goneB; rw [if_pos (acB_ptB hk a1), a1, if_pos rfl, a2]
  have hmg : goneB sh l S m k = false := by unfold goneB; rw [if_pos (acB_ptB hk b1), b1, if_pos rfl, b2]
  have hnm : n ≠ m := fun e => hne ⟨e, rfl⟩
  rcases Nat.lt_or_gt_of_ne hnm with hlt | hlt
  · have := I.ahead m k hm hk (allRd_iff.1 b3 k hk (acB_ptB hk b1)) n hlt (by rw [← ea]; exact clK_of h8 (clash_wr hwn (by simp [hasX, hwm])))
    rw [hng] at this; cases this
  · have := I.ahead n k hn hk (allRd_iff.1 a3 k hk (acB_ptB hk a1)) m hlt (by rw [← ea]; exact clK_of h8 (clash_wr hwm (by simp [hasX, hwn])))
    rw [hmg] at this; cases this
theorem comm_do {sh : Nat} {l : List TxA} {s0 : List Int} {S : SA} (hsh : 0 < sh) (hg : ∀ n, n < l.length → Good (gX l n)) (I : Inv sh l s0 S) {kx n k ky m j : Nat} (hkx : kx = 1 ∨ kx = 2) (hky : ky = 1 ∨ ky = 2) (hn : n < l.length) (hk : k < sh) (hm : m < l.length) (hj : j < sh) (hx : mayB sh l S kx n k = true) (hy : mayB sh l S ky m j = true) (hne : ¬ (kx = ky ∧ n = m ∧ k = j)) :
    doX sh l (doX sh l S kx n k) ky m j = doX sh l (doX sh l S ky m j) kx n k := by
  rcases hkx with rfl | rfl <;> rcases hky with rfl | rfl
  · exact comm_rr I.f hn hm (fun h => hne ⟨rfl, h.1, h.2⟩)
  · exact comm_rw hsh hg I hn hk hm hj hx hy
  · exact (comm_rw hsh hg I hm hj hn hk hy hx).symm
  · exact comm_ww hg I hn hk hm hj hx hy (fun h => hne ⟨rfl, h.1, h.2⟩)

/-- Picks: which step; what comes after so many of them. -/
def pickAt (picks : List Int) (i c : Nat) : Nat := if i < picks.length then (if picks.getD i 0 < 0 then (-(picks.getD i 0 + 1)).toNat % c else (picks.getD i 0).toNat % c) else 0
def step1 (sh : Nat) (l : List TxA) (S : SA) (x : Nat × Nat × Nat) : SA := doX sh l S x.1 x.2.1 x.2.2
def nextX (sh : Nat) (l : List TxA) (picks : List Int) (S : SA) (i : Nat) : SA := step1 sh l S ((canL sh l S).getD (pickAt picks i (canL sh l S).length) (0, 0, 0))
def runX (sh : Nat) (l : List TxA) (picks : List Int) (s : List Int) : Nat → SA
  | 0 => begX sh l s
  | i + 1 => nextX sh l picks (runX sh l picks s i) i
theorem pickAt_lt (picks : List Int) (i c : Nat) (h : 0 < c) : pickAt picks i c < c := by
  unfold pickAt
  split
  · split <;> exact Nat.mod_lt _ h
  · exact h
theorem pick_mem {sh : Nat} {l : List TxA} {S : SA} (picks : List Int) (i : Nat) (h : canL sh l S ≠ []) : (canL sh l S).getD (pickAt picks i (canL sh l S).length) (0, 0, 0) ∈ canL sh l S := by
  have hp := pickAt_lt picks i (canL sh l S).length (by cases e : canL sh l S with | nil => exact absurd e h | cons a t => simp)
  simp [List.getD, hp]
theorem run_inv {sh : Nat} {l : List TxA} {s : List Int} (picks : List Int) (hsh : 0 < sh) (h8 : s.length = 8) (hg : ∀ n, n < l.length → Good (gX l n)) : ∀ i, (∀ j, j < i → overB sh l (runX sh l picks s j) = false) → Inv sh l s (runX sh l picks s i) ∧ cnt sh l (runX sh l picks s i) = i
  | 0, _ => by
    refine ⟨inv_beg sh l s h8 hg, ?_⟩
    show cnt sh l (begX sh l s) = 0
    have key : ∀ N, c2 (fun _ _ => false) sh N = 0 := by
      intro N
      have k1 : ∀ J, c1 (fun _ => false) J = 0 := by
        intro J
        induction J with
        | zero => rfl
        | succ J ih => rw [c1, ih]; rfl
      induction N with
      | zero => rfl
      | succ N ih => rw [c2, ih, k1]
    unfold cnt
    rw [c2_congr (at2 (begX sh l s).rd) (fun _ _ => false) sh l.length (fun n j _ _ => at2_beg sh l n j), c2_congr (at2 (begX sh l s).wr) (fun _ _ => false) sh l.length (fun n j _ _ => at2_beg sh l n j), key]
  | i + 1, h => by
    obtain ⟨I, c⟩ := run_inv picks hsh h8 hg i (fun j hj => h j (by omega))
    have hm := pick_mem picks i (some_can (h i (by omega)))
    obtain ⟨h1, h2, h3, h4⟩ := canL_mem.1 hm
    refine ⟨inv_do hsh h8 hg I h1 h2 h3 h4, ?_⟩
    show cnt sh l (nextX sh l picks (runX sh l picks s i) i) = i + 1
    unfold nextX step1
    rw [cnt_do h1 I.f h2 h3 h4, c]
/-- All comes to an end, after as many steps as there are. -/
theorem run_over {sh : Nat} {l : List TxA} {s : List Int} (picks : List Int) (hsh : 0 < sh) (h8 : s.length = 8) (hg : ∀ n, n < l.length → Good (gX l n)) : (∀ j, j < cntAll sh l → overB sh l (runX sh l picks s j) = false) ∧ overB sh l (runX sh l picks s (cntAll sh l)) = true := by
  have hex : ∃ i, overB sh l (runX sh l picks s i) = true := by
    apply Classical.byContradiction
    intro hc
    have hall : ∀ j, overB sh l (runX sh l picks s j) = false := fun j => by
      cases e : overB sh l (runX sh l picks s j) with
      | false => rfl
      | true => exact absurd ⟨j, e⟩ hc
    have h1 := (run_inv picks hsh h8 hg (2 * (l.length * sh) + 1) (fun j _ => hall j)).2
    have h2 := cnt_le sh l (runX sh l picks s (2 * (l.length * sh) + 1))
    omega
  obtain ⟨i0, hi0⟩ := hex
  obtain ⟨i, hi, hmin⟩ := least (P := fun i => overB sh l (runX sh l picks s i) = true) i0 hi0
  have hno : ∀ j, j < i → overB sh l (runX sh l picks s j) = false := fun j hj => by
    cases e : overB sh l (runX sh l picks s j) with
    | false => rfl
    | true => exact absurd e (hmin j hj)
  obtain ⟨I, c⟩ := run_inv picks hsh h8 hg i hno
  have hi' : overB sh l (runX sh l picks s i) = true := hi
  have e : i = cntAll sh l := by rw [← c]; exact cnt_over I.t hi'
  subst e
  exact ⟨hno, hi'⟩
theorem cntAll_le (sh : Nat) (l : List TxA) : cntAll sh l ≤ 2 * (l.length * sh) := by
  have h1 := c2_le (fun n k => ptB sh (gX l n) k) sh l.length
  have h2 := c2_le (fun n k => acB sh (gX l n) k) sh l.length
  unfold cntAll; omega
def endX (sh : Nat) (l : List TxA) (picks : List Int) (s : List Int) : SA := runX sh l picks s (cntAll sh l)
theorem res_ser (s : List Int) (l : List TxA) : ∀ m, m ≤ l.length → (List.range m).map (fun n => (allG (rdOf (serAt s l n) (gX l n).rs) (gX l n).gs, rdOf (serAt s l n) (gX l n).rs)) = serRes s (l.take m)
  | 0, _ => by simp [serRes]
  | m + 1, h => by
    rw [List.range_succ, List.map_append, res_ser s l m (by omega), serRes_step s l m (by omega)]
    rfl
/-- However it is done, the same comes as one after the other. -/
theorem end_same {sh : Nat} {l : List TxA} {s : List Int} (picks : List Int) (hsh : 0 < sh) (h8 : s.length = 8) (hg : ∀ n, n < l.length → Good (gX l n)) :
    (endX sh l picks s).st = serEnd s l ∧ (List.range l.length).map (fun n => (allG ((endX sh l picks s).vs.getD n []) (gX l n).gs, (endX sh l picks s).vs.getD n [])) = serRes s l ∧ Inv sh l s (endX sh l picks s) ∧ overB sh l (endX sh l picks s) = true := by
  obtain ⟨h1, h2⟩ := run_over picks hsh h8 hg
  obtain ⟨I, _⟩ := run_inv picks hsh h8 hg _ h1
  obtain ⟨e1, e2⟩ := inv_over hsh h8 hg I h2
  refine ⟨e1, ?_, I, h2⟩
  have := res_ser s l l.length (Nat.le_refl _)
  rw [List.take_length] at this
  rw [← this]
  apply List.map_congr_left
  intro n hn
  have hn' := List.mem_range.1 hn
  show (allG ((runX sh l picks s (cntAll sh l)).vs.getD n []) (gX l n).gs, (runX sh l picks s (cntAll sh l)).vs.getD n []) = _
  rw [e2 n hn']
end Go.Proofs.YtebjkmknhpgemaaGreat

namespace Go.Proofs.YtebjkmknhpgemaaGreat
open Go.RowKit

/-- A begun state, as it is handed back. -/
def BegQ (C : Nat) (l : List TxA) (sh : Nat) (S : SA) (q : Q4) (w : World) : Prop := q.sn = 8 ∧ q.rn = l.length ∧ q.wn = l.length ∧ q.vn = l.length ∧ Form sh l S ∧ ∃ g0 gr gw gv Br Bw Bv, NewRow C w q.sa q.sc g0 8 (fun k => .int .i64 (S.st.getD k 0)) ∧ OR C w.heap.size w q.ra l.length (fun _ => sh) (fun i k => .bool (at2 S.rd i k)) gr Br ∧ OR C w.heap.size w q.wa l.length (fun _ => sh) (fun i k => .bool (at2 S.wr i k)) gw Bw ∧ OR C w.heap.size w q.va l.length (fun i => (gX l i).rs.length) (fun i k => .int .i64 ((S.vs.getD i []).getD k 0)) gv Bv
theorem BegQ.set {C : Nat} {l : List TxA} {sh : Nat} {S : SA} {q : Q4} {w : World} (h : BegQ C l sh S q w) (b j : Nat) (u : Value) (hb : b < C) : BegQ C l sh S q (w.setCell ⟨b, j, none⟩ u) := by
  obtain ⟨e1, e2, e3, e4, f, g0, gr, gw, gv, Br, Bw, Bv, o0, o1, o2, o3⟩ := h
  refine ⟨e1, e2, e3, e4, f, g0, gr, gw, gv, Br, Bw, Bv, o0.keep (set_block _ _ _ _ _ (by have := (o0.e (by decide)).2.1; omega)) (by rw [World.size_setCell]; exact Nat.le_refl _), ?_, ?_, ?_⟩
  · rw [World.size_setCell]; exact o1.far _ _ _ (.inl hb)
  · rw [World.size_setCell]; exact o2.far _ _ _ (.inl hb)
  · rw [World.size_setCell]; exact o3.far _ _ _ (.inl hb)
theorem BegQ.sta {C : Nat} {l : List TxA} {sh : Nat} {S : SA} {q : Q4} {w : World} (h : BegQ C l sh S q w) (h0 : 0 < sh) : StaQ S q w := by
  obtain ⟨e1, e2, e3, e4, f, g0, gr, gw, gv, Br, Bw, Bv, o0, o1, o2, o3⟩ := h
  refine ⟨e1.trans f.st.symm, e2.trans f.rd.symm, e3.trans f.wr.symm, e4.trans f.vs.symm, fun k hk => ?_, fun i hi => ?_, fun i hi => ?_, fun i hi => ?_⟩
  · rw [f.st] at hk
    obtain ⟨a1, _, a3, a4, _⟩ := o0.e (by decide)
    exact ⟨g0, 0, a1, a3, by rw [Nat.zero_add]; exact a4 k hk⟩
  · rw [f.rd] at hi
    obtain ⟨b, off, b', off', c', e, q1, q2, q3, q4⟩ := o1.isBR h0 (Nat.le_refl _) i hi
    refine ⟨b, off, some ⟨b', off', none⟩, c', e, q1.2, by rw [f.rn i hi]; exact q3, fun k hk => ?_, fun e => by cases e⟩
    rw [f.rn i hi] at hk
    exact ⟨b', off', rfl, q2.2, q4 k hk⟩
  · rw [f.wr] at hi
    obtain ⟨b, off, b', off', c', e, q1, q2, q3, q4⟩ := o2.isBR h0 (Nat.le_refl _) i hi
    refine ⟨b, off, some ⟨b', off', none⟩, c', e, q1.2, by rw [f.wn i hi]; exact q3, fun k hk => ?_, fun e => by cases e⟩
    rw [f.wn i hi] at hk
    exact ⟨b', off', rfl, q2.2, q4 k hk⟩
  · rw [f.vs] at hi
    obtain ⟨b, off, a', c', e, q1, q2, q3, q4, _, q5⟩ := o3.isIR f.vn (Nat.le_refl _) i hi
    exact ⟨b, off, a', c', e, q1.2, by rw [f.vn i hi]; exact q2, q4, q5⟩
theorem BegQ.staF {C : Nat} {l : List TxA} {sh : Nat} {S : SA} {q : Q4} {w : World} (h : BegQ C l sh S q w) (h0 : 0 < sh) : StaF C S q w := fun w' h1 h2 => by
  obtain ⟨e1, e2, e3, e4, f, g0, gr, gw, gv, Br, Bw, Bv, o0, o1, o2, o3⟩ := h
  refine BegQ.sta (C := C) ⟨e1, e2, e3, e4, f, g0, gr, gw, gv, Br, Bw, Bv, o0.keep (h1 g0 (o0.e (by decide)).2.1 (o0.e (by decide)).2.2.1) h2, (o1.keep h1).mono (Nat.le_refl _) h2, (o2.keep h1).mono (Nat.le_refl _) h2, (o3.keep h1).mono (Nat.le_refl _) h2⟩ h0
theorem BegQ.low {C C' : Nat} {l : List TxA} {sh : Nat} {S : SA} {q : Q4} {w : World} (h : BegQ C l sh S q w) (hc : C' ≤ C) : BegQ C' l sh S q w := by
  obtain ⟨e1, e2, e3, e4, f, g0, gr, gw, gv, Br, Bw, Bv, o0, o1, o2, o3⟩ := h
  exact ⟨e1, e2, e3, e4, f, g0, gr, gw, gv, Br, Bw, Bv, ⟨fun hn => ⟨(o0.e hn).1, Nat.le_trans hc (o0.e hn).2.1, (o0.e hn).2.2⟩, o0.z, fun ad e => Nat.le_trans hc (o0.lo ad e)⟩, o1.mono hc (Nat.le_refl _), o2.mono hc (Nat.le_refl _), o3.mono hc (Nat.le_refl _)⟩
theorem vs_beg (l : List TxA) (i k : Nat) : ((l.map fun x => List.replicate x.rs.length (0 : Int)).getD i []).getD k 0 = 0 := by
  rw [List.getD_eq_getElem?_getD, List.getD_eq_getElem?_getD, List.getElem?_map]
  cases l[i]? with
  | none => rfl
  | some x =>
    simp only [Option.map_some, Option.getD_some, List.getElem?_replicate]
    split <;> rfl
theorem run_mk (w : World) (t e : TypeId) (i : TypeInfo) (z : Value) (ht : Tryz.prog.underlying t = some (.slice e)) (hi : Tryz.prog.info? e = some i) (hz : i.zero = some z) (h1 : i.size = 1) (h24 : i.bytes ≤ 24) (n : Nat) (hn : n ≤ 8) : (Instr.makeSlice t (.int .i64 (n : Int)) (.int .i64 (n : Int))).run Tryz.prog w = .ok (.slice (some ⟨w.heap.size, 0, none⟩) n n) (w.alloc (.cells (madeCells z.cells n) e)) := by
  have hb : (i.bytes : Int) * (n : Int) ≤ 281474976710656 := by
    have : i.bytes * n ≤ 24 * 8 := Nat.mul_le_mul h24 hn
    have h' : ((i.bytes * n : Nat) : Int) ≤ 281474976710656 := by omega
    rwa [Int.natCast_mul] at h'
  have hr := run_makeSlice (P := Tryz.prog) w t e i z ht hi hz .i64 .i64 n n (by omega) (Int.le_refl _) (by rw [h1]; simp only [Int.toNat_natCast]; omega) hb (by omega)
  simp only [Int.toNat_natCast, h1, Nat.mul_one] at hr
  exact hr
def begE (m : Int) (l : List TxA) (s : List Int) : Int := firstNZ [planE m l, lenE s]

variable (la : Option Addr) (lc : Nat) (l : List TxA) (sa : Option Addr) (sc : Nat) (s : List Int)

set_option maxRecDepth 100000 in
set_option maxHeartbeats 2000000 in
theorem beg1_pan (m : Int) (p q : Nat) (w : World) (p0 : w.cell? ⟨p, 0, none⟩ = some (.int .i64 m)) (p1 : w.cell? ⟨p, 1, none⟩ = some (.slice la l.length lc)) (q0 : w.cell? ⟨q, 0, none⟩ = some (.slice sa s.length sc)) (hl : IsTxs w la l) (he : ¬ begE m l s = 0) :
    Calls Tryz.prog 42 #[.pointer (some ⟨p, 0, none⟩), .pointer (some ⟨q, 0, none⟩)] w fun e w' => e = .panicked [{ v := .iface 30 (.int .i64 (begE m l s)), recovered := false }] ∧ Below w.heap.size w w' := by
  have HE : Hid (¬ firstNZ [planE m l, lenE s] = 0) := he
  have hW : Hid (Below w.heap.size w (w.alloc (.cells #[.slice none 0 0, .slice none 0 0, .slice none 0 0, .slice none 0 0] 29))) := grow_alloc (Below.refl _ _) _
  have y0 := ext_cell hW.out p0
  have y1 := ext_cell hW.out p1
  have z0 := ext_cell hW.out q0
  have HLW : Hid (IsTxs (w.alloc (.cells #[.slice none 0 0, .slice none 0 0, .slice none 0 0, .slice none 0 0] 29)) la l) := hl.below hW.out
  unfold begE
  clear hl he p0 p1 q0
  go_enter Tryz.func42, Tryz.ntmps42
  go_upto_region 1 with fail
  generalize (w.alloc (.cells #[.slice none 0 0, .slice none 0 0, .slice none 0 0, .slice none 0 0] 29)) = W at *
  have KS : Hid (∀ w', Below W.heap.size W w' → Below W.heap.size W w' ∧ w'.cell? ⟨p, 0, none⟩ = some (.int .i64 m) ∧ w'.cell? ⟨p, 1, none⟩ = some (.slice la l.length lc) ∧ w'.cell? ⟨q, 0, none⟩ = some (.slice sa s.length sc)) := fun w' hb => ⟨hb, ext_cell hb y0, ext_cell hb y1, ext_cell hb z0⟩
  go_region_held (fun w' => Below W.heap.size W w' ∧ w'.cell? ⟨p, 0, none⟩ = some (.int .i64 m) ∧ w'.cell? ⟨p, 1, none⟩ = some (.slice la l.length lc) ∧ w'.cell? ⟨q, 0, none⟩ = some (.slice sa s.length sc)) ((refine KS.out _ ?_; go_split_ands; repeat (first | assumption | exact Below.refl _ _ | exact Hid.out (by assumption) | refine grow_drew ?_ | refine grow_alloc ?_ _ | refine grow_trans ?_ (by assumption))))
    (first
      | (go_at_call 44; refine (placeCheck_any la lc l m _ ?_).mono ?_; (refine HLW.out.below ?_; go_split_ands; repeat (first | assumption | exact Below.refl _ _ | exact Hid.out (by assumption) | refine grow_drew ?_ | refine grow_alloc ?_ _ | refine grow_trans ?_ (by assumption))); rintro e wx ⟨rfl, hbx⟩)
      | (go_at_call 45; refine (storeCheck_e s sa sc _).mono ?_; rintro e w' ⟨rfl, rfl⟩)
      | (go_at_call 43; refine (panic_or (leave_nz [planE m l, lenE s] _ 2 _ (by simp) HE.out ?_) (.tuple #[])).mono ?_; (exact errs2 _ _ _ _ (by simp)); rintro e w' (⟨rfl, rfl⟩ | ⟨hF, rfl, rfl⟩); (refine ⟨rfl, rfl, grow_trans hW.out ?_⟩; go_split_ands; repeat (first | assumption | exact Below.refl _ _ | exact Hid.out (by assumption) | refine grow_drew ?_ | refine grow_alloc ?_ _ | refine grow_trans ?_ (by assumption)))))
  exact (‹Hid False› : Hid False).out.elim

set_option maxRecDepth 100000 in
set_option maxHeartbeats 8000000 in
theorem beg1_ok (sh : Nat) (p q : Nat) (w : World) (p0 : w.cell? ⟨p, 0, none⟩ = some (.int .i64 (sh : Int))) (p1 : w.cell? ⟨p, 1, none⟩ = some (.slice la l.length lc)) (q0 : w.cell? ⟨q, 0, none⟩ = some (.slice sa s.length sc)) (hl : IsTxs w la l) (hs : IsInts w sa s) (he : begE sh l s = 0) :
    Calls Tryz.prog 42 #[.pointer (some ⟨p, 0, none⟩), .pointer (some ⟨q, 0, none⟩)] w fun e w' => ∃ q : Q4, e = .returned (.agg #[.slice q.sa q.sn q.sc, .slice q.ra q.rn q.rc, .slice q.wa q.wn q.tc, .slice q.va q.vn q.vc]) ∧ BegQ w.heap.size l sh (begX sh l s) q w' ∧ Below w.heap.size w w' := by
  obtain ⟨hp, h8⟩ : planE (sh : Int) l = 0 ∧ s.length = 8 := by
    have h := firstNZ_zero _ he
    have h0 : planE (sh : Int) l = 0 := h 0
    have h1 : lenE s = 0 := h 1
    refine ⟨h0, ?_⟩
    by_cases c : s.length = 8
    · exact c
    · have : lenE s = 1 := if_neg c
      omega
  have hz := planE_zero hp
  have hl8 := chkL_small hz.2.2
  have hs0 : 0 < sh := by omega
  have hs4 : sh ≤ 4 := by omega
  have hr4 : ∀ i, i < l.length → (gX l i).rs.length ≤ 4 := fun i hi => (many_small _ _ _ (chk_parts (chkL_in hz.2.2 i hi)).1).1
  have HR4 : Hid (∀ i, i < l.length → (gX l i).rs.length ≤ 4) := hr4
  have HE : Hid (firstNZ [planE (sh : Int) l, lenE s] = 0) := he
  have FORM : Hid (Form sh l (begX sh l s)) := (inv_beg sh l s h8 (fun n hn => good_of (chkL_in hz.2.2 n hn))).f
  have hW : Hid (Below w.heap.size w (w.alloc (.cells #[.slice none 0 0, .slice none 0 0, .slice none 0 0, .slice none 0 0] 29))) := grow_alloc (Below.refl _ _) _
  have y0 := ext_cell hW.out p0
  have y1 := ext_cell hW.out p1
  have z0 := ext_cell hW.out q0
  have HLW : Hid (IsTxs (w.alloc (.cells #[.slice none 0 0, .slice none 0 0, .slice none 0 0, .slice none 0 0] 29)) la l) := hl.below hW.out
  have HSW : Hid (IsInts (w.alloc (.cells #[.slice none 0 0, .slice none 0 0, .slice none 0 0, .slice none 0 0] 29)) sa s) := hs.below hW.out
  have t0 : ∀ j, j < 4 → (w.alloc (.cells #[.slice none 0 0, .slice none 0 0, .slice none 0 0, .slice none 0 0] 29)).cell? ⟨w.heap.size, j, none⟩ = some (.slice none 0 0) := fun j hj => by
    match j, hj with
    | 0, _ => exact at_new _ _ 29 _ 0 _ rfl rfl
    | 1, _ => exact at_new _ _ 29 _ 1 _ rfl rfl
    | 2, _ => exact at_new _ _ 29 _ 2 _ rfl rfl
    | 3, _ => exact at_new _ _ 29 _ 3 _ rfl rfl
  have T0 : Hid (∀ j, j < 4 → (w.alloc (.cells #[.slice none 0 0, .slice none 0 0, .slice none 0 0, .slice none 0 0] 29)).cell? ⟨w.heap.size, j, none⟩ = some (.slice none 0 0)) := t0
  have TF : Hid (∀ j, (w.alloc (.cells #[.slice none 0 0, .slice none 0 0, .slice none 0 0, .slice none 0 0] 29)).frozen? ⟨w.heap.size, j, none⟩ = false) := fun j => frozen_new _ _ 29 _ j rfl
  have sz : Hid ((w.alloc (.cells #[.slice none 0 0, .slice none 0 0, .slice none 0 0, .slice none 0 0] 29)).heap.size = w.heap.size + 1) := by show _ = _; simp
  have H8 : Hid (s.length = 8) := h8
  obtain ⟨i4, hi4, hz4, hs4', hb4'⟩ := info_parts Tryz.info4
  obtain ⟨i3, hi3, hz3, hs3, hb3'⟩ := info_parts Tryz.info3
  obtain ⟨i65, hi65, hz65, hs65, hb65⟩ := info_parts Tryz.info65
  obtain ⟨i25, hi25, hz25, hs25, hb25⟩ := info_parts Tryz.info25
  have hb4 : i4.bytes ≤ 24 := by omega
  have hb3 : i3.bytes ≤ 24 := by omega
  have hm1 : sh ≤ 8 := by omega
  obtain ⟨MK4, hMK4⟩ : ∃ c, c = madeCells (Value.bool false).cells sh := ⟨_, rfl⟩
  have hmk4 : ∀ w, (Instr.makeSlice 65 (.int .i64 (sh : Int)) (.int .i64 (sh : Int))).run Tryz.prog w = .ok (.slice (some ⟨w.heap.size, 0, none⟩) sh sh) (w.alloc (.cells MK4 4)) := fun w => by rw [hMK4]; exact run_mk w 65 4 i4 _ Tryz.underlying65 hi4 hz4 hs4' hb4 sh hm1
  have HMK4 : Hid (MK4 = madeCells (Value.bool false).cells sh) := hMK4
  clear hl he p0 p1 q0 hs hz hp t0 hr4 h8 hMK4
  go_enter Tryz.func42, Tryz.ntmps42
  go_upto_region 1 with fail
  generalize (w.alloc (.cells #[.slice none 0 0, .slice none 0 0, .slice none 0 0, .slice none 0 0] 29)) = W at *
  have KS : Hid (∀ w', Below W.heap.size W w' → Below W.heap.size W w' ∧ w'.cell? ⟨p, 0, none⟩ = some (.int .i64 (sh : Int)) ∧ w'.cell? ⟨p, 1, none⟩ = some (.slice la l.length lc) ∧ w'.cell? ⟨q, 0, none⟩ = some (.slice sa s.length sc)) := fun w' hb => ⟨hb, ext_cell hb y0, ext_cell hb y1, ext_cell hb z0⟩
  go_region_held3 (fun w' => Below W.heap.size W w' ∧ w'.cell? ⟨p, 0, none⟩ = some (.int .i64 (sh : Int)) ∧ w'.cell? ⟨p, 1, none⟩ = some (.slice la l.length lc) ∧ w'.cell? ⟨q, 0, none⟩ = some (.slice sa s.length sc)) ((refine KS.out _ ?_; go_split_ands; repeat (first | assumption | exact Below.refl _ _ | exact Hid.out (by assumption) | refine grow_drew ?_ | refine grow_alloc ?_ _ | refine grow_trans ?_ (by assumption))))
    (first
      | (go_at_call 44; refine (placeCheck_any la lc l (sh : Int) _ ?_).mono ?_; (refine HLW.out.below ?_; go_split_ands; repeat (first | assumption | exact Below.refl _ _ | exact Hid.out (by assumption) | refine grow_drew ?_ | refine grow_alloc ?_ _ | refine grow_trans ?_ (by assumption))); rintro e wx ⟨rfl, hbx⟩)
      | (go_at_call 45; refine (storeCheck_e s sa sc _).mono ?_; rintro e w' ⟨rfl, rfl⟩)
      | (go_at_call 43; refine (leave_zero [planE (sh : Int) l, lenE s] _ 2 _ (by simp) HE.out ?_).mono ?_; (exact errs2 _ _ _ _ (by simp)); rintro e w1 ⟨rfl, rfl⟩))
  have BW : Hid (Below W.heap.size W (w'.alloc (.cells #[.int .i64 (planE (sh : Int) l), .int .i64 (lenE s)] 30))) := grow_alloc (grow_trans (grow_drew (Below.refl _ _)) hbx) _
  go_split_ands
  generalize w'.alloc (.cells #[.int .i64 (planE (sh : Int) l), .int .i64 (lenE s)] 30) = w1 at *
  have q0 := ext_cell BW.out z0
  have CL : Hid (Calls Tryz.prog 46 #[.slice sa s.length sc] w1 fun e w'' => ∃ a' c' g, e = .returned (.slice a' 8 c') ∧ NewRow w1.heap.size w'' a' c' g 8 (fun k => .int .i64 (s.getD k 0)) ∧ Below w1.heap.size w1 w'') := by
    have h := cloneI_new 8 (fun k => .int .i64 (s.getD k 0)) (fun k _ => ⟨_, rfl⟩) sa sc w1 (by decide) (fun k hk => by
      obtain ⟨b, off, e, q1, q2⟩ := (HSW.out.below BW.out) k (by rw [H8.out]; exact hk)
      exact ⟨b, off, e, q1, q2⟩)
    rw [H8.out]
    exact h
  have Y1 : Hid (W.cell? ⟨p, 1, none⟩ = some (.slice la l.length lc)) := y1
  have Y0 : Hid (W.cell? ⟨p, 0, none⟩ = some (.int .i64 (sh : Int))) := y0
  clear y0 y1 z0 KS hbx
  go_wp2_with fail
  refine CL.out.mono ?_
  rintro e w2 ⟨a', c', g0, rfl, hn0, hb2⟩
  clear CL q0
  have B2 : Hid (Below W.heap.size W w2) := grow_trans BW.out hb2
  have R0 : Hid (NewRow w1.heap.size w2 a' c' g0 8 (fun k => .int .i64 (s.getD k 0))) := hn0
  have hWw : Hid (w.heap.size + 1 ≤ w1.heap.size ∧ w.heap.size < w2.heap.size ∧ g0 < w2.heap.size) := by
    have e1 := BW.out.size
    have e2 := hb2.size
    have e3 := sz.out
    exact ⟨by omega, by omega, (hn0.e (by decide)).2.2.1⟩
  have bU : Below w2.heap.size w2 (w2.alloc (.cells #[.slice a' 8 c', .slice none 0 0, .slice none 0 0, .slice none 0 0] 29)) := grow_alloc (Below.refl _ _) _
  have BG0 : Hid (Beg w2 (w2.alloc (.cells #[.slice a' 8 c', .slice none 0 0, .slice none 0 0, .slice none 0 0] 29)) w2.heap.size (.slice a' 8 c') (.slice none 0 0) (.slice none 0 0) (.slice none 0 0) 0 0 0 sh l [] [] [] (fun _ => 0) (fun _ => 0) (fun _ => 0)) :=
    ⟨at_new _ _ 29 _ 0 _ rfl rfl, at_new _ _ 29 _ 1 _ rfl rfl, at_new _ _ 29 _ 2 _ rfl rfl, at_new _ _ 29 _ 3 _ rfl rfl, fun j => frozen_new _ _ 29 _ j rfl, CR.nil _ _ _ _ _ _, CR.nil _ _ _ _ _ _, CR.nil _ _ _ _ _ _, (fun b h _ => h.elim (fun h => by cases h) (fun ⟨i, hi, _⟩ => absurd hi (Nat.not_lt_zero _))), (fun b h _ => h.elim (fun h => by cases h) (fun ⟨i, hi, _⟩ => absurd hi (Nat.not_lt_zero _))), (fun b h _ => h.elim (fun h => by cases h) (fun ⟨i, hi, _⟩ => absurd hi (Nat.not_lt_zero _))), bU, Nat.le_refl _, by simp⟩
  clear bU hn0 hb2 BW
  go_upto_region 3 with fail
  generalize (w2.alloc (.cells #[.slice a' 8 c', .slice none 0 0, .slice none 0 0, .slice none 0 0] 29)) = W3 at *
  have y1 := ext_cell (grow_trans B2.out BG0.out.bl) Y1.out
  go_upto_region 4 with fail
  clear y1
  go_loopw [5, 18] (fun _ i wr => ∃ (k : Nat) (v1 v2 v3 : Value) (L1 L2 L3 : List (Option Addr × Nat × Nat)) (B1 B2 B3 : Nat → Nat), k ≤ l.length ∧ i = .int .i64 k ∧ Hid (Beg w2 wr w2.heap.size (.slice a' 8 c') v1 v2 v3 k k k sh l L1 L2 L3 B1 B2 B3)) (fun _ i _ => l.length - (intOf i).toNat)
  case atStart => exact ⟨0, _, _, _, _, _, _, _, _, _, Nat.zero_le _, rfl, BG0⟩
  case round =>
    obtain ⟨k, v1, v2, v3, L1, L2, L3, B1, B2', B3, hk, rfl, hB⟩ := hrel
    clear BG0
    by_cases hlt : k < l.length
    · obtain ⟨b, off, ea, _, t0, t1, t2, hx⟩ := (HLW.out.below B2.out) k hlt
      subst ea
      have d0 := ext_cell hB.out.bl t0
      have d1 := ext_cell hB.out.bl t1
      have d2 := ext_cell hB.out.bl t2
      have i1 : (k : Int) < (l.length : Int) := by omega
      have i0 : (0 : Int) ≤ (k : Int) := by omega
      have hr4 := HR4.out k hlt
      clear t0 t1 t2 hx
      generalize hgx : l.getD k x0 = x at d0 d1 d2
      have HXE : Hid (gX l k = x) := hgx
      rw [show gX l k = x from hgx] at hr4
      clear hgx
      obtain ⟨MK3, hMK3⟩ : ∃ c, c = madeCells (Value.int .i64 0).cells x.rs.length := ⟨_, rfl⟩
      have hmk3 : ∀ w, (Instr.makeSlice 25 (.int .i64 (x.rs.length : Int)) (.int .i64 (x.rs.length : Int))).run Tryz.prog w = .ok (.slice (some ⟨w.heap.size, 0, none⟩) x.rs.length x.rs.length) (w.alloc (.cells MK3 3)) := fun w => by rw [hMK3]; exact run_mk w 25 3 i3 _ Tryz.underlying25 hi3 hz3 hs3 hb3 _ (by omega)
      have HMK3 : Hid (MK3 = madeCells (Value.int .i64 0).cells x.rs.length) := hMK3
      clear hMK3
      go_upto_region 6 with fail
      have bX : Below wr.heap.size wr (wr.alloc (.cells #[.slice x.ra x.rs.length x.rc, .slice x.ga x.gs.length x.gc, .slice x.sa x.ss.length x.sc] 79)) := grow_alloc (Below.refl _ _) _
      have HB1 : Hid (Beg w2 (wr.alloc (.cells #[.slice x.ra x.rs.length x.rc, .slice x.ga x.gs.length x.gc, .slice x.sa x.ss.length x.sc] 79)) w2.heap.size (.slice a' 8 c') v1 v2 v3 k k k sh l L1 L2 L3 B1 B2' B3) := hB.out.below bX
      have fX : Hid (w2.heap.size ≠ wr.heap.size ∧ (∀ j, v1.ownBlock = some j ∨ v2.ownBlock = some j ∨ v3.ownBlock = some j → j ≠ wr.heap.size)) := ⟨by have := hB.out.hs; omega, fun j h => by
        rcases h with h | h | h
        · have := (hB.out.r1.o.lt _ h).2; omega
        · have := (hB.out.r2.o.lt _ h).2; omega
        · have := (hB.out.r3.o.lt _ h).2; omega⟩
      have xc : (wr.alloc (.cells #[.slice x.ra x.rs.length x.rc, .slice x.ga x.gs.length x.gc, .slice x.sa x.ss.length x.sc] 79)).cell? ⟨wr.heap.size, 0, none⟩ = some (.slice x.ra x.rs.length x.rc) := at_new wr _ 79 _ 0 _ rfl rfl
      clear bX hB d0 d1 d2
      generalize (wr.alloc (.cells #[.slice x.ra x.rs.length x.rc, .slice x.ga x.gs.length x.gc, .slice x.sa x.ss.length x.sc] 79)) = V at *
      generalize wr.heap.size = X at *
      have P0 : Hid (∀ w', Below w2.heap.size w2 w' → w'.cell? ⟨p, 0, none⟩ = some (.int .i64 (sh : Int))) := fun w' hb => ext_cell (grow_trans B2.out hb) Y0.out
      have e0 := P0.out V HB1.out.bl
      have hbN : Below V.heap.size V (((V.drew).alloc (.cells MK4 4)).alloc (.cells #[.slice (some ⟨V.heap.size, 0, none⟩) sh sh] 65)) := grow_alloc (grow_alloc (grow_drew (Below.refl _ _)) _) _
      have HBN : Hid (Below V.heap.size V (((V.drew).alloc (.cells MK4 4)).alloc (.cells #[.slice (some ⟨V.heap.size, 0, none⟩) sh sh] 65))) := hbN
      have HN : Hid (Beg w2 (((V.drew).alloc (.cells MK4 4)).alloc (.cells #[.slice (some ⟨V.heap.size, 0, none⟩) sh sh] 65)) w2.heap.size (.slice a' 8 c') v1 v2 v3 k k k sh l L1 L2 L3 B1 B2' B3) := HB1.out.below hbN
      have c1 := HB1.out.c1
      have od1 : ∀ o, (V.alloc o).cell? ⟨w2.heap.size, 1, none⟩ = some v1 := fun o => ext_cell (grow_alloc (Below.refl _ _) o) c1
      have od2 : ∀ o o', ((V.alloc o).alloc o').cell? ⟨w2.heap.size, 1, none⟩ = some v1 := fun o o' => ext_cell (grow_alloc (grow_alloc (Below.refl _ _) o) o') c1
      have hsm : Hid (L1.length ≤ 100) := by show _ ≤ _; have e := HB1.out.r1.n; omega
      clear hbN
      go_cut [] (fun wx => ∃ (v1' : Value) (L1' : List (Option Addr × Nat × Nat)) (B1' : Nat → Nat), Hid (Beg w2 wx w2.heap.size (.slice a' 8 c') v1' v2 v3 (k + 1) k k sh l L1' L2 L3 B1' B2' B3) ∧ wx.cell? ⟨X, 0, none⟩ = some (.slice x.ra x.rs.length x.rc))
      case first =>
        go_region_law (first
            | (refine step_append_sl (by rfl) _ _ 26 65 (by rfl) i65 _ Tryz.underlying26 hi65 hz65 hs65 hb65 rfl (w2.heap.size + 1) v1 L1.length _ (by rfl) HN.out.r1.o ⟨_, 0, none⟩ 1 (.slice (some ⟨V.heap.size, 0, none⟩) sh sh) (by rfl) (at_new _ _ 65 _ 0 _ (by simp) rfl) rfl hsm.out HN.out.hs ?_; intro v' w5 ho3 hg3 hv3; obtain ⟨g', cap', rfl, _, _⟩ := ho3.form (by simp); have oc : w5.cell? ⟨w2.heap.size, 1, none⟩ = some v1 := hg3.cell HN.out.c1 (fun e => by have := (HN.out.r1.o.lt w2.heap.size e.symm).1; omega); have of3 : w5.frozen? ⟨w2.heap.size, 1, none⟩ = false := (World.frozen?_of_block (a := ⟨w2.heap.size, 1, none⟩) (hg3.block w2.heap.size HN.out.hs (fun e => by have := (HN.out.r1.o.lt w2.heap.size e.symm).1; omega))).trans (HN.out.fz 1)))
        all_goals (
          go_wp2_with fail
          go_meet
          obtain ⟨B', PB⟩ := Beg.push1 HB1.out HBN.out ho3 hg3 hv3 (by rw [HMK4.out]; exact made_new rfl)
          exact ⟨_, _, B', PB, by rw [World.cell?_setCell_far _ _ _ _ (by simpa using fX.out.1)]; exact hg3.cell (ext_cell HBN.out xc) (fun e => fX.out.2 X (.inl e.symm) rfl)⟩)
      case rest =>
        obtain ⟨v1', L1', B1', HB2, xc⟩ := hcut
        obtain ⟨V2, hren⟩ : ∃ V2 : World, V2 = wc := ⟨_, rfl⟩
        subst hren
        clear c1 od1 od2 hsm HN HBN HB1 e0
        have e0 := P0.out V2 HB2.out.bl
        have hbN : Below V2.heap.size V2 (((V2.drew).alloc (.cells MK4 4)).alloc (.cells #[.slice (some ⟨V2.heap.size, 0, none⟩) sh sh] 65)) := grow_alloc (grow_alloc (grow_drew (Below.refl _ _)) _) _
        have HBN : Hid (Below V2.heap.size V2 (((V2.drew).alloc (.cells MK4 4)).alloc (.cells #[.slice (some ⟨V2.heap.size, 0, none⟩) sh sh] 65))) := hbN
        have HN : Hid (Beg w2 (((V2.drew).alloc (.cells MK4 4)).alloc (.cells #[.slice (some ⟨V2.heap.size, 0, none⟩) sh sh] 65)) w2.heap.size (.slice a' 8 c') v1' v2 v3 (k + 1) k k sh l L1' L2 L3 B1' B2' B3) := HB2.out.below hbN
        have c2 := HB2.out.c2
        have od1 : ∀ o, (V2.alloc o).cell? ⟨w2.heap.size, 2, none⟩ = some v2 := fun o => ext_cell (grow_alloc (Below.refl _ _) o) c2
        have od2 : ∀ o o', ((V2.alloc o).alloc o').cell? ⟨w2.heap.size, 2, none⟩ = some v2 := fun o o' => ext_cell (grow_alloc (grow_alloc (Below.refl _ _) o) o') c2
        have hsm : Hid (L2.length ≤ 100) := by show _ ≤ _; have e := HB2.out.r2.n; omega
        clear hbN
        go_upto_region 7 with fail
        go_cut [] (fun wx => ∃ (v2' : Value) (L2' : List (Option Addr × Nat × Nat)) (B2'' : Nat → Nat), Hid (Beg w2 wx w2.heap.size (.slice a' 8 c') v1' v2' v3 (k + 1) (k + 1) k sh l L1' L2' L3 B1' B2'' B3) ∧ wx.cell? ⟨X, 0, none⟩ = some (.slice x.ra x.rs.length x.rc))
        case first =>
          go_region_law (first
            | (refine step_append_sl (by rfl) _ _ 26 65 (by rfl) i65 _ Tryz.underlying26 hi65 hz65 hs65 hb65 rfl (w2.heap.size + 1) v2 L2.length _ (by rfl) HN.out.r2.o ⟨_, 0, none⟩ 1 (.slice (some ⟨V2.heap.size, 0, none⟩) sh sh) (by rfl) (at_new _ _ 65 _ 0 _ (by simp) rfl) rfl hsm.out HN.out.hs ?_; intro v' w5 ho3 hg3 hv3; obtain ⟨g', cap', rfl, _, _⟩ := ho3.form (by simp); have oc : w5.cell? ⟨w2.heap.size, 2, none⟩ = some v2 := hg3.cell HN.out.c2 (fun e => by have := (HN.out.r2.o.lt w2.heap.size e.symm).1; omega); have of3 : w5.frozen? ⟨w2.heap.size, 2, none⟩ = false := (World.frozen?_of_block (a := ⟨w2.heap.size, 2, none⟩) (hg3.block w2.heap.size HN.out.hs (fun e => by have := (HN.out.r2.o.lt w2.heap.size e.symm).1; omega))).trans (HN.out.fz 2)))
          all_goals (
            go_wp2_with fail
            go_meet
            obtain ⟨B', PB⟩ := Beg.push2 HB2.out HBN.out ho3 hg3 hv3 (by rw [HMK4.out]; exact made_new rfl)
            exact ⟨_, _, B', PB, by rw [World.cell?_setCell_far _ _ _ _ (by simpa using fX.out.1)]; exact hg3.cell (ext_cell HBN.out xc) (fun e => fX.out.2 X (.inr (.inl e.symm)) rfl)⟩)
        case rest =>
          obtain ⟨v2', L2', B2'', HB3, xc⟩ := hcut
          obtain ⟨V3, hren⟩ : ∃ V3 : World, V3 = wc := ⟨_, rfl⟩
          subst hren
          clear c2 od1 od2 hsm HN HBN HB2 e0 P0
          have hbN : Below V3.heap.size V3 (((V3.drew).alloc (.cells MK3 3)).alloc (.cells #[.slice (some ⟨V3.heap.size, 0, none⟩) x.rs.length x.rs.length] 25)) := grow_alloc (grow_alloc (grow_drew (Below.refl _ _)) _) _
          have HBN : Hid (Below V3.heap.size V3 (((V3.drew).alloc (.cells MK3 3)).alloc (.cells #[.slice (some ⟨V3.heap.size, 0, none⟩) x.rs.length x.rs.length] 25))) := hbN
          have HN : Hid (Beg w2 (((V3.drew).alloc (.cells MK3 3)).alloc (.cells #[.slice (some ⟨V3.heap.size, 0, none⟩) x.rs.length x.rs.length] 25)) w2.heap.size (.slice a' 8 c') v1' v2' v3 (k + 1) (k + 1) k sh l L1' L2' L3 B1' B2'' B3) := HB3.out.below hbN
          have c3 := HB3.out.c3
          have od1 : ∀ o, (V3.alloc o).cell? ⟨w2.heap.size, 3, none⟩ = some v3 := fun o => ext_cell (grow_alloc (Below.refl _ _) o) c3
          have od2 : ∀ o o', ((V3.alloc o).alloc o').cell? ⟨w2.heap.size, 3, none⟩ = some v3 := fun o o' => ext_cell (grow_alloc (grow_alloc (Below.refl _ _) o) o') c3
          have hsm : Hid (L3.length ≤ 100) := by show _ ≤ _; have e := HB3.out.r3.n; omega
          clear hbN
          go_upto_region 8 with fail
          go_region_law (first
            | (refine step_append_sl (by rfl) _ _ 27 25 (by rfl) i25 _ Tryz.underlying27 hi25 hz25 hs25 hb25 rfl (w2.heap.size + 1) v3 L3.length _ (by rfl) HN.out.r3.o ⟨_, 0, none⟩ 1 (.slice (some ⟨V3.heap.size, 0, none⟩) x.rs.length x.rs.length) (by rfl) (at_new _ _ 25 _ 0 _ (by simp) rfl) rfl hsm.out HN.out.hs ?_; intro v' w5 ho3 hg3 hv3; obtain ⟨g', cap', rfl, _, _⟩ := ho3.form (by simp); have oc : w5.cell? ⟨w2.heap.size, 3, none⟩ = some v3 := hg3.cell HN.out.c3 (fun e => by have := (HN.out.r3.o.lt w2.heap.size e.symm).1; omega); have of3 : w5.frozen? ⟨w2.heap.size, 3, none⟩ = false := (World.frozen?_of_block (a := ⟨w2.heap.size, 3, none⟩) (hg3.block w2.heap.size HN.out.hs (fun e => by have := (HN.out.r3.o.lt w2.heap.size e.symm).1; omega))).trans (HN.out.fz 3)))
          all_goals (
            have HP : Hid (∃ B3', Beg w2 (w5.setCell ⟨w2.heap.size, 3, none⟩ (.slice (some ⟨g', 0, none⟩) (L3.length + 1) cap')) w2.heap.size (.slice a' 8 c') v1' v2' (.slice (some ⟨g', 0, none⟩) (L3.length + 1) cap') (k + 1) (k + 1) (k + 1) sh l L1' L2' (L3 ++ [(some ⟨V3.heap.size, 0, none⟩, (gX l k).rs.length, x.rs.length)]) B1' B2'' B3') := Beg.push3 (g := V3.heap.size) HB3.out HBN.out (by rw [HXE.out]; exact ho3) hg3 hv3 (by rw [HXE.out, HMK3.out]; exact made_new rfl)
            clear c3 od1 od2 hsm HN HBN HB3 xc ho3 hg3 hv3 oc of3
            generalize (w5.setCell ⟨w2.heap.size, 3, none⟩ (.slice (some ⟨g', 0, none⟩) (L3.length + 1) cap')) = WF at *
            go_wp2
            go_roundw
            case rel =>
              obtain ⟨B3', hp⟩ := HP.out
              exact ⟨k + 1, v1', v2', _, L1', L2', _, B1', B2'', B3', by omega, by go_num, hp⟩
            case measure => simp [intOf]; omega)
    · have hkk : k = l.length := by omega
      subst hkk
      have i1 : ¬ (l.length : Int) < (l.length : Int) := by omega
      obtain ⟨a1, k1, g1, hv1, o1⟩ := hB.out.r1.fin
      obtain ⟨a2, k2, g2, hv2, o2⟩ := hB.out.r2.fin
      obtain ⟨a3, k3, g3, hv3, o3⟩ := hB.out.r3.fin
      subst hv1 hv2 hv3
      have z0 := hB.out.c0
      have z1 := hB.out.c1
      have z2 := hB.out.c2
      have z3 := hB.out.c3
      have bw : Below W.heap.size W wr := grow_trans B2.out hB.out.bl
      have v0 := ext_cell bw (T0.out 0 (by decide))
      have v1 := ext_cell bw (T0.out 1 (by decide))
      have v2 := ext_cell bw (T0.out 2 (by decide))
      have v3 := ext_cell bw (T0.out 3 (by decide))
      have vf : ∀ j, wr.frozen? ⟨w.heap.size, j, none⟩ = false := fun j => (bw.frozen (p := ⟨w.heap.size, j, none⟩) (by have := sz.out; show w.heap.size < _; omega)).trans (TF.out j)
      have RN : NewRow (w.heap.size + 1) wr a' c' g0 8 (fun k => .int .i64 (s.getD k 0)) := by
        have r := R0.out.below hB.out.bl
        have e1 := hWw.out
        have hh := sz.out
        exact ⟨fun hn => ⟨(r.e hn).1, by have := (r.e hn).2.1; omega, (r.e hn).2.2⟩, r.z, fun ad e => by have := r.lo ad e; omega⟩
      have FQ : Hid (BegQ (w.heap.size + 1) l sh (begX sh l s) ⟨a', a1, a2, a3, 8, l.length, l.length, l.length, c', k1, k2, k3⟩ wr) := by
        have hC : w.heap.size + 1 ≤ w2.heap.size + 1 := by have := hWw.out; omega
        exact ⟨rfl, rfl, rfl, rfl, FORM.out, g0, g1, g2, g3, B1, B2', B3, RN, (o1.mono hC (Nat.le_refl _)).congr (fun i k _ _ => by show Value.bool (at2 (l.map fun _ => List.replicate sh false) i k) = _; rw [at2_beg]), (o2.mono hC (Nat.le_refl _)).congr (fun i k _ _ => by show Value.bool (at2 (l.map fun _ => List.replicate sh false) i k) = _; rw [at2_beg]), (o3.mono hC (Nat.le_refl _)).congr (fun i k _ _ => by show Value.int .i64 (((l.map fun x => List.replicate x.rs.length (0 : Int)).getD i []).getD k 0) = _; rw [vs_beg])⟩
      have FF : Hid (BegQ (w.heap.size + 1) l sh (begX sh l s) ⟨a', a1, a2, a3, 8, l.length, l.length, l.length, c', k1, k2, k3⟩ ((((wr.setCell ⟨w.heap.size, 0, none⟩ (.slice a' 8 c')).setCell ⟨w.heap.size, 1, none⟩ (.slice a1 l.length k1)).setCell ⟨w.heap.size, 2, none⟩ (.slice a2 l.length k2)).setCell ⟨w.heap.size, 3, none⟩ (.slice a3 l.length k3)) ∧ Below w.heap.size w ((((wr.setCell ⟨w.heap.size, 0, none⟩ (.slice a' 8 c')).setCell ⟨w.heap.size, 1, none⟩ (.slice a1 l.length k1)).setCell ⟨w.heap.size, 2, none⟩ (.slice a2 l.length k2)).setCell ⟨w.heap.size, 3, none⟩ (.slice a3 l.length k3))) := ⟨(((FQ.out.set _ 0 _ (Nat.lt_succ_self _)).set _ 1 _ (Nat.lt_succ_self _)).set _ 2 _ (Nat.lt_succ_self _)).set _ 3 _ (Nat.lt_succ_self _), grow_set (grow_set (grow_set (grow_set (grow_trans hW.out bw) (Nat.le_refl _) _) (Nat.le_refl _) _) (Nat.le_refl _) _) (Nat.le_refl _) _⟩
      clear FQ RN o1 o2 o3 hB bw
      go_wp2_with fail
      have x0 : ((((wr.setCell ⟨w.heap.size, 0, none⟩ (.slice a' 8 c')).setCell ⟨w.heap.size, 1, none⟩ (.slice a1 l.length k1)).setCell ⟨w.heap.size, 2, none⟩ (.slice a2 l.length k2)).setCell ⟨w.heap.size, 3, none⟩ (.slice a3 l.length k3)).cell? ⟨w.heap.size, 0, none⟩ = some (.slice a' 8 c') := (set_off (by decide) (set_off (by decide) (set_off (by decide) (set_here v0))))
      have x1 : ((((wr.setCell ⟨w.heap.size, 0, none⟩ (.slice a' 8 c')).setCell ⟨w.heap.size, 1, none⟩ (.slice a1 l.length k1)).setCell ⟨w.heap.size, 2, none⟩ (.slice a2 l.length k2)).setCell ⟨w.heap.size, 3, none⟩ (.slice a3 l.length k3)).cell? ⟨w.heap.size, 1, none⟩ = some (.slice a1 l.length k1) := (set_off (by decide) (set_off (by decide) (set_here (set_off (by decide) v1))))
      have x2 : ((((wr.setCell ⟨w.heap.size, 0, none⟩ (.slice a' 8 c')).setCell ⟨w.heap.size, 1, none⟩ (.slice a1 l.length k1)).setCell ⟨w.heap.size, 2, none⟩ (.slice a2 l.length k2)).setCell ⟨w.heap.size, 3, none⟩ (.slice a3 l.length k3)).cell? ⟨w.heap.size, 2, none⟩ = some (.slice a2 l.length k2) := (set_off (by decide) (set_here (set_off (by decide) (set_off (by decide) v2))))
      have x3 : ((((wr.setCell ⟨w.heap.size, 0, none⟩ (.slice a' 8 c')).setCell ⟨w.heap.size, 1, none⟩ (.slice a1 l.length k1)).setCell ⟨w.heap.size, 2, none⟩ (.slice a2 l.length k2)).setCell ⟨w.heap.size, 3, none⟩ (.slice a3 l.length k3)).cell? ⟨w.heap.size, 3, none⟩ = some (.slice a3 l.length k3) := (set_here (set_off (by decide) (set_off (by decide) (set_off (by decide) v3))))
      generalize ((((wr.setCell ⟨w.heap.size, 0, none⟩ (.slice a' 8 c')).setCell ⟨w.heap.size, 1, none⟩ (.slice a1 l.length k1)).setCell ⟨w.heap.size, 2, none⟩ (.slice a2 l.length k2)).setCell ⟨w.heap.size, 3, none⟩ (.slice a3 l.length k3)) = W7 at *
      refine bodyPost_ret (v := .agg #[.slice a' 8 c', .slice a1 l.length k1, .slice a2 l.length k2, .slice a3 l.length k3]) (by simp [results, Tryz.results42, go_sem, x0, x1, x2, x3]) rfl ⟨⟨a', a1, a2, a3, 8, l.length, l.length, l.length, c', k1, k2, k3⟩, rfl, FF.out.1.low (Nat.le_succ _), FF.out.2⟩
end Go.Proofs.YtebjkmknhpgemaaGreat

namespace Go.Proofs.YtebjkmknhpgemaaGreat
open Go.RowKit

def begS (m : Int) (l : List TxA) (s : List Int) : SA := if begE m l s = 0 then begX m.toNat l s else SNil
theorem begE_zero {m : Int} {l : List TxA} {s : List Int} (h : begE m l s = 0) : ∃ sh : Nat, m = sh ∧ 0 < sh ∧ sh ≤ 4 ∧ planE m l = 0 ∧ s.length = 8 := by
  have h' := firstNZ_zero _ h
  have h0 : planE m l = 0 := h' 0
  have h1 : lenE s = 0 := h' 1
  have hz := planE_zero h0
  refine ⟨m.toNat, by omega, by omega, by omega, h0, ?_⟩
  by_cases c : s.length = 8
  · exact c
  · have : lenE s = 1 := if_neg c
    omega

variable (la : Option Addr) (lc : Nat) (l : List TxA) (sa : Option Addr) (sc : Nat) (s : List Int)

set_option maxRecDepth 100000 in
set_option maxHeartbeats 2000000 in
theorem stepsBegin_any (m : Int) (w : World) (hl : IsTxs w la l) (hs : IsInts w sa s) :
    Calls Tryz.prog 14 #[.agg #[.int .i64 m, .slice la l.length lc], .slice sa s.length sc] w fun e w' => ∃ q : Q4, e = .returned (.tuple #[.agg #[.slice q.sa q.sn q.sc, .slice q.ra q.rn q.rc, .slice q.wa q.wn q.tc, .slice q.va q.vn q.vc], .int .i64 (begE m l s)]) ∧ StaF w.heap.size (begS m l s) q w' ∧ Below w.heap.size w w' := by
  have hg : Below w.heap.size w (((((w.alloc (.cells #[.int .i64 m, .slice la l.length lc] 24)).alloc (.cells #[.slice sa s.length sc] 25)).alloc (.cells #[.slice none 0 0, .slice none 0 0, .slice none 0 0, .slice none 0 0] 29)).alloc (.cells #[.slice none 0 0, .slice none 0 0, .slice none 0 0, .slice none 0 0] 29)).alloc (.cells #[.int .i64 0] 30)) := (grow_alloc (grow_alloc (grow_alloc (grow_alloc (grow_alloc (Below.refl _ _) _) _) _) _) _)
  have hU : Hid (Below w.heap.size w (((w.alloc (.cells #[.int .i64 m, .slice la l.length lc] 24)).alloc (.cells #[.slice sa s.length sc] 25)).alloc (.cells #[.slice none 0 0, .slice none 0 0, .slice none 0 0, .slice none 0 0] 29))) := (grow_alloc (grow_alloc (grow_alloc (Below.refl _ _) _) _) _)
  have hmf : ∀ (fn : Fn) (first cap : Array Value) (w : World), (Instr.makeFunc fn first cap).run Tryz.prog w = .ok (.func fn first cap) w := fun _ _ _ _ => rfl
  have p0 : (((((w.alloc (.cells #[.int .i64 m, .slice la l.length lc] 24)).alloc (.cells #[.slice sa s.length sc] 25)).alloc (.cells #[.slice none 0 0, .slice none 0 0, .slice none 0 0, .slice none 0 0] 29)).alloc (.cells #[.slice none 0 0, .slice none 0 0, .slice none 0 0, .slice none 0 0] 29)).alloc (.cells #[.int .i64 0] 30)).cell? ⟨w.heap.size, 0, none⟩ = some (.int .i64 m) := ext_cell (grow_alloc (grow_alloc (grow_alloc (grow_alloc (Below.refl _ _) _) _) _) _) (at_new _ _ 24 _ 0 _ (by first | rfl | simp) rfl)
  have p1 : (((((w.alloc (.cells #[.int .i64 m, .slice la l.length lc] 24)).alloc (.cells #[.slice sa s.length sc] 25)).alloc (.cells #[.slice none 0 0, .slice none 0 0, .slice none 0 0, .slice none 0 0] 29)).alloc (.cells #[.slice none 0 0, .slice none 0 0, .slice none 0 0, .slice none 0 0] 29)).alloc (.cells #[.int .i64 0] 30)).cell? ⟨w.heap.size, 1, none⟩ = some (.slice la l.length lc) := ext_cell (grow_alloc (grow_alloc (grow_alloc (grow_alloc (Below.refl _ _) _) _) _) _) (at_new _ _ 24 _ 1 _ (by first | rfl | simp) rfl)
  have q0 : (((((w.alloc (.cells #[.int .i64 m, .slice la l.length lc] 24)).alloc (.cells #[.slice sa s.length sc] 25)).alloc (.cells #[.slice none 0 0, .slice none 0 0, .slice none 0 0, .slice none 0 0] 29)).alloc (.cells #[.slice none 0 0, .slice none 0 0, .slice none 0 0, .slice none 0 0] 29)).alloc (.cells #[.int .i64 0] 30)).cell? ⟨w.heap.size + 1, 0, none⟩ = some (.slice sa s.length sc) := ext_cell (grow_alloc (grow_alloc (grow_alloc (Below.refl _ _) _) _) _) (at_new _ _ 25 _ 0 _ (by first | rfl | simp) rfl)
  have T0 : Hid (∀ j, j < 4 → (((w.alloc (.cells #[.int .i64 m, .slice la l.length lc] 24)).alloc (.cells #[.slice sa s.length sc] 25)).alloc (.cells #[.slice none 0 0, .slice none 0 0, .slice none 0 0, .slice none 0 0] 29)).cell? ⟨w.heap.size + 2, j, none⟩ = some (.slice none 0 0)) := fun j hj => by
    match j, hj with
    | 0, _ => exact at_new _ _ 29 _ 0 _ (by simp) rfl
    | 1, _ => exact at_new _ _ 29 _ 1 _ (by simp) rfl
    | 2, _ => exact at_new _ _ 29 _ 2 _ (by simp) rfl
    | 3, _ => exact at_new _ _ 29 _ 3 _ (by simp) rfl
  have TF : Hid (∀ j, (((w.alloc (.cells #[.int .i64 m, .slice la l.length lc] 24)).alloc (.cells #[.slice sa s.length sc] 25)).alloc (.cells #[.slice none 0 0, .slice none 0 0, .slice none 0 0, .slice none 0 0] 29)).frozen? ⟨w.heap.size + 2, j, none⟩ = false) := fun j => frozen_new _ _ 29 _ j (by simp)
  have sz : Hid ((((w.alloc (.cells #[.int .i64 m, .slice la l.length lc] 24)).alloc (.cells #[.slice sa s.length sc] 25)).alloc (.cells #[.slice none 0 0, .slice none 0 0, .slice none 0 0, .slice none 0 0] 29)).heap.size = w.heap.size + 3) := by show _ = _; simp
  have CC : Hid (Calls Tryz.prog 41 #[.func (.func 42) #[] #[.pointer (some ⟨w.heap.size, 0, none⟩), .pointer (some ⟨w.heap.size + 1, 0, none⟩)]] (((w.alloc (.cells #[.int .i64 m, .slice la l.length lc] 24)).alloc (.cells #[.slice sa s.length sc] 25)).alloc (.cells #[.slice none 0 0, .slice none 0 0, .slice none 0 0, .slice none 0 0] 29)) fun e w' => ∃ q : Q4, e = .returned (.tuple #[.agg #[.slice q.sa q.sn q.sc, .slice q.ra q.rn q.rc, .slice q.wa q.wn q.tc, .slice q.va q.vn q.vc], .int .i64 (begE m l s)]) ∧ StaF (w.heap.size + 3) (begS m l s) q w' ∧ Below (((w.alloc (.cells #[.int .i64 m, .slice la l.length lc] 24)).alloc (.cells #[.slice sa s.length sc] 25)).alloc (.cells #[.slice none 0 0, .slice none 0 0, .slice none 0 0, .slice none 0 0] 29)).heap.size (((w.alloc (.cells #[.int .i64 m, .slice la l.length lc] 24)).alloc (.cells #[.slice sa s.length sc] 25)).alloc (.cells #[.slice none 0 0, .slice none 0 0, .slice none 0 0, .slice none 0 0] 29)) w') := by
    by_cases hE : begE m l s = 0
    · have e2 : begS m l s = begX m.toNat l s := if_pos hE
      obtain ⟨sh, rfl, h0, _, _, _⟩ := begE_zero hE
      rw [e2, hE]
      refine (caughtSa_ret 42 _ (fun _ => rfl) (fun q w' => BegQ (w.heap.size + 5) l sh (begX sh l s) q w') _ (fun q w' i u j hj h => h.set j i u (by have := sz.out; omega)) ((beg1_ok la lc l sa sc s sh _ _ _ p0 p1 q0 (hl.below hg) (hs.below hg) hE).mono ?_)).mono ?_
      · rintro e w' ⟨q, rfl, ho, hb⟩
        exact ⟨q, rfl, ho.low (by simp), hb⟩
      · rintro e w' ⟨q, rfl, ho, hb⟩
        exact ⟨q, rfl, (ho.staF h0).low (by omega), hb⟩
    · have e2 : begS m l s = SNil := if_neg hE
      rw [e2]
      refine (caughtSa_pan 42 _ (fun _ => rfl) _ _ (beg1_pan la lc l sa sc s m _ _ _ p0 p1 q0 (hl.below hg) hE)).mono ?_
      rintro e w' ⟨rfl, hb⟩
      exact ⟨qNil, rfl, staF_nil _ _, hb⟩
  clear hg p0 p1 q0 hl hs
  go_enter Tryz.func14, Tryz.ntmps14
  go_upto_region 1 with fail
  generalize (((w.alloc (.cells #[.int .i64 m, .slice la l.length lc] 24)).alloc (.cells #[.slice sa s.length sc] 25)).alloc (.cells #[.slice none 0 0, .slice none 0 0, .slice none 0 0, .slice none 0 0] 29)) = W at *
  go_wp2_with fail
  refine CC.out.mono ?_
  clear CC
  rintro e w1 ⟨q, rfl, hq, hb⟩
  have t0 := ext_cell hb (T0.out 0 (by decide))
  have t1 := ext_cell hb (T0.out 1 (by decide))
  have t2 := ext_cell hb (T0.out 2 (by decide))
  have t3 := ext_cell hb (T0.out 3 (by decide))
  have tf : ∀ j, w1.frozen? ⟨w.heap.size + 2, j, none⟩ = false := fun j => (hb.frozen (p := ⟨w.heap.size + 2, j, none⟩) (by have := sz.out; show w.heap.size + 2 < _; omega)).trans (TF.out j)
  have FB : Hid (Below w.heap.size w ((((w1.setCell ⟨w.heap.size + 2, 0, none⟩ (.slice q.sa q.sn q.sc)).setCell ⟨w.heap.size + 2, 1, none⟩ (.slice q.ra q.rn q.rc)).setCell ⟨w.heap.size + 2, 2, none⟩ (.slice q.wa q.wn q.tc)).setCell ⟨w.heap.size + 2, 3, none⟩ (.slice q.va q.vn q.vc))) := grow_set (grow_set (grow_set (grow_set (grow_trans hU.out hb) (by simp) _) (by simp) _) (by simp) _) (by simp) _
  have FS : Hid (StaF w.heap.size (begS m l s) q ((((w1.setCell ⟨w.heap.size + 2, 0, none⟩ (.slice q.sa q.sn q.sc)).setCell ⟨w.heap.size + 2, 1, none⟩ (.slice q.ra q.rn q.rc)).setCell ⟨w.heap.size + 2, 2, none⟩ (.slice q.wa q.wn q.tc)).setCell ⟨w.heap.size + 2, 3, none⟩ (.slice q.va q.vn q.vc))) := ((((hq.set _ 0 _ (by omega)).set _ 1 _ (by omega)).set _ 2 _ (by omega)).set _ 3 _ (by omega)).low (by omega)
  clear hq hb T0 TF
  go_wp2_with fail
  have x0 : ((((w1.setCell ⟨w.heap.size + 2, 0, none⟩ (.slice q.sa q.sn q.sc)).setCell ⟨w.heap.size + 2, 1, none⟩ (.slice q.ra q.rn q.rc)).setCell ⟨w.heap.size + 2, 2, none⟩ (.slice q.wa q.wn q.tc)).setCell ⟨w.heap.size + 2, 3, none⟩ (.slice q.va q.vn q.vc)).cell? ⟨w.heap.size + 2, 0, none⟩ = some (.slice q.sa q.sn q.sc) := (set_off (by decide) (set_off (by decide) (set_off (by decide) (set_here t0))))
  have x1 : ((((w1.setCell ⟨w.heap.size + 2, 0, none⟩ (.slice q.sa q.sn q.sc)).setCell ⟨w.heap.size + 2, 1, none⟩ (.slice q.ra q.rn q.rc)).setCell ⟨w.heap.size + 2, 2, none⟩ (.slice q.wa q.wn q.tc)).setCell ⟨w.heap.size + 2, 3, none⟩ (.slice q.va q.vn q.vc)).cell? ⟨w.heap.size + 2, 1, none⟩ = some (.slice q.ra q.rn q.rc) := (set_off (by decide) (set_off (by decide) (set_here (set_off (by decide) t1))))
  have x2 : ((((w1.setCell ⟨w.heap.size + 2, 0, none⟩ (.slice q.sa q.sn q.sc)).setCell ⟨w.heap.size + 2, 1, none⟩ (.slice q.ra q.rn q.rc)).setCell ⟨w.heap.size + 2, 2, none⟩ (.slice q.wa q.wn q.tc)).setCell ⟨w.heap.size + 2, 3, none⟩ (.slice q.va q.vn q.vc)).cell? ⟨w.heap.size + 2, 2, none⟩ = some (.slice q.wa q.wn q.tc) := (set_off (by decide) (set_here (set_off (by decide) (set_off (by decide) t2))))
  have x3 : ((((w1.setCell ⟨w.heap.size + 2, 0, none⟩ (.slice q.sa q.sn q.sc)).setCell ⟨w.heap.size + 2, 1, none⟩ (.slice q.ra q.rn q.rc)).setCell ⟨w.heap.size + 2, 2, none⟩ (.slice q.wa q.wn q.tc)).setCell ⟨w.heap.size + 2, 3, none⟩ (.slice q.va q.vn q.vc)).cell? ⟨w.heap.size + 2, 3, none⟩ = some (.slice q.va q.vn q.vc) := (set_here (set_off (by decide) (set_off (by decide) (set_off (by decide) t3))))
  generalize ((((w1.setCell ⟨w.heap.size + 2, 0, none⟩ (.slice q.sa q.sn q.sc)).setCell ⟨w.heap.size + 2, 1, none⟩ (.slice q.ra q.rn q.rc)).setCell ⟨w.heap.size + 2, 2, none⟩ (.slice q.wa q.wn q.tc)).setCell ⟨w.heap.size + 2, 3, none⟩ (.slice q.va q.vn q.vc)) = WF at *
  refine bodyPost_ret (v := .tuple #[.agg #[.slice q.sa q.sn q.sc, .slice q.ra q.rn q.rc, .slice q.wa q.wn q.tc, .slice q.va q.vn q.vc], .int .i64 (begE m l s)]) (by simp [results, Tryz.results14, go_sem, x0, x1, x2, x3]) rfl ⟨q, rfl, FS.out, FB.out⟩
end Go.Proofs.YtebjkmknhpgemaaGreat
