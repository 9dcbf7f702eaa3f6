/-
  
  Conditions: those that each theorem states.
-/
import Derived.Test.YtcgpkonfneofdaaGreatSOwnD
namespace Go.Proofs.YtcgpkonfneofdaaGreat
open Go.RowKit
variable {w0 w : World} {C h p : Nat} {la : Option Addr} {lc rc tc vc : Nat} {sa ra wa va : Option Addr} {sc : Nat} {l : List TxA} {sh : Nat} {S : SA} {g0 c1 c2 c3 hi gr gw gv : Nat} {Br Bw Bv : Nat → Nat}
set_option maxRecDepth 100000 in
set_option maxHeartbeats 4000000 in
theorem write_at (D : DoAt w0 w C h p la lc rc tc vc sa ra wa va sc l sh S g0 c1 c2 c3 hi gr gw gv Br Bw Bv) {n k : Nat} (hn : n < l.length) (hk : k < sh) :
  Calls Tryz.prog 92 #[.pointer (some ⟨h, 0, none⟩), .int .i64 n, .int .i64 k] w fun e w' => e = .returned (.tuple #[]) ∧ DoAt w0 w' C h p la lc rc tc vc sa ra wa va sc l sh (writeX sh l S n k) g0 c1 c2 c3 hi gr gw gv Br Bw Bv ∧ Below C w w' := by
 have h1 := D.own.h1
 have h2 := D.own.h2
 have h3 := D.own.h3
 have h4 := D.own.h4
 have h5 := D.own.h5
 have hl8 := D.l8
 have hs4 := D.s4
 have hs0 := D.s0
 have W1O := D.own.setWr hn hk
 have W1B : Below C w (w.setCell ⟨Bw n, k, none⟩ (.bool true)) := (Below.refl _ _).setCell (by obtain ⟨b1, _⟩ := D.own.wr.b n hn hs0; show C ≤ Bw n; omega) _
 have D1 : Hid (DoAt w0 (w.setCell ⟨Bw n, k, none⟩ (.bool true)) C h p la lc rc tc vc sa ra wa va sc l sh { S with wr := setB S.wr n k } g0 c1 c2 c3 hi gr gw gv Br Bw Bv) := D.to W1B W1O
 have B1 : Hid (Below C w (w.setCell ⟨Bw n, k, none⟩ (.bool true))) := W1B
 have HG : Hid (Good (gX l n)) := D.good hn
 have HE : chkTx (gX l n).rs (gX l n).gs (gX l n).ss = 0 := chkL_in D.ck n hn
 have HSX : Hid (writeX sh l S n k = { S with wr := setB S.wr n k, st := putSh sh k S.st (keysOf (gX l n).ss) (madeOf (S.vs.getD n []) (gX l n).gs (gX l n).ss) }) := rfl
 obtain ⟨ewa, _, _⟩ := D.own.wr.ad (by omega)
 obtain ⟨a1, cc, r0, r1', _, _⟩ := D.own.wr.o n hn
 have r1 := r1' hs0
 subst r1
 have r2 := D.own.wr.c n k hn hk
 have r3 := D.own.wr.f n k hn hs0
 have x0 := D.h0
 have x2 := D.h3
 rw [ewa] at x2
 have HF : Hid (Form sh l S) := D.own.f
 have hZL : (S.vs.getD n []).length = (gX l n).rs.length := HF.out.vn n hn
 have hRE : runE (gX l n).rs (gX l n).gs (gX l n).ss (S.vs.getD n []) = 0 := by
  show firstNZ _ = _
  rw [firstNZ, if_pos HE, firstNZ]
  have : countE (gX l n).rs (S.vs.getD n []) = 0 := if_pos hZL
  rw [this]; rfl
 clear W1B W1O D h1 h2 h3 h4 h5 ewa
 generalize writeX sh l S n k = S9 at *
 go_enter Tryz.func92, Tryz.ntmps92
 go_upto_region 1 with fail
 clear x0 x2 r0 r2 r3
 generalize (w.setCell ⟨Bw n, k, none⟩ (.bool true)) = W at *
 obtain ⟨b, off, ela, q0, q1, q2, hx⟩ := D1.out.reads hn
 have x0 := D1.out.h0
 have x1 := D1.out.p1
 have x4 := D1.out.h4
 rw [ela] at x1
 obtain ⟨f1, _, _⟩ := D1.out.own.vs.ad (by omega)
 rw [f1] at x4
 obtain ⟨a', c', v0, v1, v2, _⟩ := D1.out.own.vs.o n hn
 have v3 := D1.out.own.vs.c n
 have v0 : W.cell? ⟨gv, n, none⟩ = some (.slice a' (gX l n).rs.length c') := v0
 rw [← hZL] at v0
 have HZ : IsInts W a' (S.vs.getD n []) := fun i hi => by
  have hi' : i < (gX l n).rs.length := by rw [← hZL]; exact hi
  exact ⟨Bv n, 0, v1 (by show 0 < (gX l n).rs.length; omega), World.block_lt_of_cell? W ⟨Bv n, i, none⟩ (v3 i hn hi'), by rw [Nat.zero_add]; exact v3 i hn hi'⟩
 have CR : Hid (∀ w', Below W.heap.size W w' → Calls Tryz.prog 20 #[.agg #[.slice (gX l n).ra (gX l n).rs.length (gX l n).rc, .slice (gX l n).ga (gX l n).gs.length (gX l n).gc, .slice (gX l n).sa (gX l n).ss.length (gX l n).sc], .slice a' (S.vs.getD n []).length c'] w' (fun e w'' => ∃ va vc ma mc, e = .returned (.tuple #[.agg #[.bool (allG (S.vs.getD n []) (gX l n).gs), .slice va (S.vs.getD n []).length vc], .slice ma (madeOf (S.vs.getD n []) (gX l n).gs (gX l n).ss).length mc, .int .i64 0]) ∧ IsAt w'.heap.size w''.heap.size w'' va (S.vs.getD n []) ∧ IsAt w'.heap.size w''.heap.size w'' ma (madeOf (S.vs.getD n []) (gX l n).gs (gX l n).ss) ∧ Below w'.heap.size w' w'')) := fun w' hb => by
  have h := txnRun_any (gX l n).ra (gX l n).ga (gX l n).sa (gX l n).rc (gX l n).gc (gX l n).sc (gX l n).rs (gX l n).gs (gX l n).ss a' c' (S.vs.getD n []) w' (hx.below hb) (HZ.below hb) v2
  have e1 : runD (gX l n).rs (gX l n).gs (gX l n).ss (S.vs.getD n []) = allG (S.vs.getD n []) (gX l n).gs := if_pos hRE
  have e2 : runV (gX l n).rs (gX l n).gs (gX l n).ss (S.vs.getD n []) = S.vs.getD n [] := if_pos hRE
  have e3 : runM (gX l n).rs (gX l n).gs (gX l n).ss (S.vs.getD n []) = madeOf (S.vs.getD n []) (gX l n).gs (gX l n).ss := if_pos hRE
  rw [e1, e2, e3, hRE] at h
  exact h
 have hML : (madeOf (S.vs.getD n []) (gX l n).gs (gX l n).ss).length ≤ (gX l n).ss.length := by unfold madeOf; split <;> simp [allS]
 have hs3 : (gX l n).ss.length ≤ 3 := (many_small _ _ _ (chk_parts HE).1).2.2.1
 have HML : Hid ((madeOf (S.vs.getD n []) (gX l n).gs (gX l n).ss).length ≤ (gX l n).ss.length) := hML
 clear hx v1 v2 v3 HZ hRE HE hZL f1 ela HF
 generalize hM : madeOf (S.vs.getD n []) (gX l n).gs (gX l n).ss = M at *
 clear hM
 generalize hZ : S.vs.getD n [] = Z at *
 clear hZ
 generalize allG Z (gX l n).gs = DD at *
 have HKS : Hid (∀ w', Below W.heap.size W w' → w'.cell? ⟨h, 0, none⟩ = some (.pointer (some ⟨p, 0, none⟩)) ∧ w'.cell? ⟨h, 4, none⟩ = some (.slice (some ⟨gv, 0, none⟩) l.length vc) ∧ w'.cell? ⟨p, 1, none⟩ = some (.slice (some ⟨b, off, none⟩) l.length lc) ∧ w'.cell? ⟨b, off + n * 3, none⟩ = some (.slice (gX l n).ra (gX l n).rs.length (gX l n).rc) ∧ w'.cell? ⟨b, off + n * 3 + 1, none⟩ = some (.slice (gX l n).ga (gX l n).gs.length (gX l n).gc) ∧ w'.cell? ⟨b, off + n * 3 + 2, none⟩ = some (.slice (gX l n).sa (gX l n).ss.length (gX l n).sc) ∧ w'.cell? ⟨gv, n, none⟩ = some (.slice a' Z.length c') ∧ Hid (Below W.heap.size W w')) := fun w' hb => ⟨ext_cell hb x0, ext_cell hb x4, ext_cell hb x1, ext_cell hb q0, ext_cell hb q1, ext_cell hb q2, ext_cell hb v0, hb⟩
 go_cut [7, 8] (fun m e wx => ∃ ma mc, m = .slice ma M.length mc ∧ e = .int .i64 0 ∧ IsAt W.heap.size wx.heap.size wx ma M ∧ Below W.heap.size W wx)
 case first =>
  clear x0 x1 x4 q0 q1 q2 v0 HML hML hs3 HG HSX D1 B1
  go_region_held3 (fun w' => w'.cell? ⟨h, 0, none⟩ = some (.pointer (some ⟨p, 0, none⟩)) ∧ w'.cell? ⟨h, 4, none⟩ = some (.slice (some ⟨gv, 0, none⟩) l.length vc) ∧ w'.cell? ⟨p, 1, none⟩ = some (.slice (some ⟨b, off, none⟩) l.length lc) ∧ w'.cell? ⟨b, off + n * 3, none⟩ = some (.slice (gX l n).ra (gX l n).rs.length (gX l n).rc) ∧ w'.cell? ⟨b, off + n * 3 + 1, none⟩ = some (.slice (gX l n).ga (gX l n).gs.length (gX l n).gc) ∧ w'.cell? ⟨b, off + n * 3 + 2, none⟩ = some (.slice (gX l n).sa (gX l n).ss.length (gX l n).sc) ∧ w'.cell? ⟨gv, n, none⟩ = some (.slice a' Z.length c') ∧ Hid (Below W.heap.size W w')) ((refine HKS.out _ ?_; go_split_ands; repeat (first | assumption | exact Below.refl _ _ | exact Hid.out (by assumption) | refine grow_drew ?_ | refine grow_alloc ?_ _ | refine grow_set ?_ (by first | exact Nat.le_refl _ | omega | (simp; done) | (simp at *; omega)) _ | refine grow_trans ?_ (by assumption))))
   (first
    | (go_at_call 20; refine (CR.out _ ?_).mono ?_; (go_split_ands; exact Hid.out (by assumption)); rintro e wb ⟨va', vc', ma, mc, rfl, hva, hma, hbb⟩; have hwb := size_le hbb; (first | (obtain ⟨t0, t1, tf⟩ := fresh_res (V := W) hbb rfl) | skip)))
  all_goals (go_wp2_with fail; go_meet)
  all_goals (
   have e2 : W.heap.size ≤ wb.heap.size := by first | exact hwb | (have h := hwb; simp at h; omega)
   go_split_ands
   first
    | exact ⟨ma, mc, rfl, rfl, (hma.below (grow_alloc (Below.refl _ _) _)).widen (by first | exact Nat.le_refl _ | (simp; done)) (by simp), Hid.out (by assumption)⟩
    | exact ⟨ma, mc, rfl, rfl, ((hma.set ⟨_, 0, none⟩ _ (.inl (by first | (simp; done) | omega))).set ⟨_, 1, none⟩ _ (.inl (by first | (simp; done) | omega))).widen (by first | exact Nat.le_refl _ | (simp; done)) (by simp), Hid.out (by assumption)⟩)
 case rest =>
  obtain ⟨ma, mc, rfl, rfl, hma, hbc⟩ := hcut
  go_wp2_with fail
  refine (leave_zero [0] _ 1 _ (by simp) rfl (errs1 _ _ _ (by simp))).mono ?_
  rintro e W2 ⟨rfl, rfl⟩
  have U : Below wc.heap.size wc (wc.alloc (.cells #[.int .i64 0] 30)) := grow_alloc (Below.refl _ _) _
  have UV : Below W.heap.size W (wc.alloc (.cells #[.int .i64 0] 30)) := grow_trans hbc U
  have hMA : Hid (IsAt W.heap.size wc.heap.size (wc.alloc (.cells #[.int .i64 0] 30)) ma M) := hma.below U
  have D2 : Hid (DoAt w0 (wc.alloc (.cells #[.int .i64 0] 30)) C h p la lc rc tc vc sa ra wa va sc l sh { S with wr := setB S.wr n k, st := putSh sh k S.st ((keysOf (gX l n).ss).take 0) (M.take 0) } g0 c1 c2 c3 hi gr gw gv Br Bw Bv) := D1.out.below UV
  have B2 : Hid (Below C w (wc.alloc (.cells #[.int .i64 0] 30))) := B1.out.trans (UV.mono D1.out.cs)
  have gW : Hid (g0 < W.heap.size) := ((D1.out.own.st.e (by decide)).2.2.1)
  clear U UV hma hbc HKS CR x0 x1 x4 q0 q1 q2 v0 D1 B1
  generalize wc.heap.size = hiM at *
  generalize (wc.alloc (.cells #[.int .i64 0] 30)) = W3 at *
  go_wp2
  go_loopw [9, 10, 11, 50] (fun _ _ _ i wr => ∃ j : Nat, j ≤ M.length ∧ i = .int .i64 j ∧ Hid (DoAt w0 wr C h p la lc rc tc vc sa ra wa va sc l sh { S with wr := setB S.wr n k, st := putSh sh k S.st ((keysOf (gX l n).ss).take j) (M.take j) } g0 c1 c2 c3 hi gr gw gv Br Bw Bv) ∧ Hid (IsAt W.heap.size hiM wr ma M) ∧ Hid (Below C w wr)) (fun _ _ _ i _ => M.length - (intOf i).toNat)
  case atStart => exact ⟨0, Nat.zero_le _, rfl, D2, hMA, B2⟩
  case round =>
   obtain ⟨j, hj, rfl, hD, hA, hB⟩ := hrel
   clear D2 hMA B2
   by_cases hlt : j < M.length
   ·have i1 : (j : Int) < (M.length : Int) := by omega
    have hjs : j < (gX l n).ss.length := by omega
    obtain ⟨bt, ot, ela, _, _, t2, hx⟩ := hD.out.reads hn
    obtain ⟨b', off', ea, _, k0, _⟩ := hx.s j hjs
    clear hx
    obtain ⟨bm, om, em, _, _, m0⟩ := hA.out j hlt
    have hkl : j < (keysOf (gX l n).ss).length := by rw [keys_len]; exact hjs
    have k1 : wr.cell? ⟨b', off' + j * 6, none⟩ = some (.int .i64 ((keysOf (gX l n).ss).getD j 0)) := by rw [keys_get _ j hjs]; exact k0
    have HT : (keysOf (gX l n).ss).getD j 0 ∈ keysOf (gX l n).ss := by
     rw [List.getD_eq_getElem?_getD, List.getElem?_eq_getElem hkl]
     exact List.getElem_mem hkl
    obtain ⟨hz, hz'⟩ := HG.out.s _ HT
    have HP : Hid (putSh sh k S.st ((keysOf (gX l n).ss).take (j + 1)) (M.take (j + 1)) = if ((keysOf (gX l n).ss).getD j 0).toNat % sh = k then (putSh sh k S.st ((keysOf (gX l n).ss).take j) (M.take j)).set ((keysOf (gX l n).ss).getD j 0).toNat (M.getD j 0) else putSh sh k S.st ((keysOf (gX l n).ss).take j) (M.take j)) := putSh_take sh k _ _ _ j hkl hlt
    clear k0 HT
    generalize (keysOf (gX l n).ss).getD j 0 = z at *
    obtain ⟨c, rfl⟩ := Int.eq_ofNat_of_zero_le hz
    have hc8 : c < 8 := by omega
    have CL : Hid (∀ wx, DoAt w0 wx C h p la lc rc tc vc sa ra wa va sc l sh { S with wr := setB S.wr n k, st := putSh sh k S.st ((keysOf (gX l n).ss).take j) (M.take j) } g0 c1 c2 c3 hi gr gw gv Br Bw Bv → Calls Tryz.prog 116 #[.pointer (some ⟨h, 0, none⟩), .int .i64 c, .int .i64 k] wx fun e w' => e = .returned (.bool (c % sh == k)) ∧ Below wx.heap.size wx w') := fun wx hd => lies_at wx h p sh hd.h0 hd.p0 hs0 hs4 hc8
    have y0 := hD.out.h0
    have y1 := hD.out.p1
    rw [ela] at y1
    rw [ea] at t2
    subst em
    clear ela ea hz hz'
    generalize M.getD j 0 = uu at *
    go_wp2_with fail
    refine (CL.out wr hD.out).mono ?_
    rintro e w1 ⟨rfl, hb1⟩
    have E1 : Hid (DoAt w0 w1 C h p la lc rc tc vc sa ra wa va sc l sh { S with wr := setB S.wr n k, st := putSh sh k S.st ((keysOf (gX l n).ss).take j) (M.take j) } g0 c1 c2 c3 hi gr gw gv Br Bw Bv) := hD.out.below hb1
    have F1 : Hid (Below C w w1) := hB.out.trans (hb1.mono hD.out.cs)
    have A1 : Hid (IsAt W.heap.size hiM w1 (some ⟨bm, om, none⟩) M) := hA.out.below hb1
    clear CL hb1 hD hB hA k1 m0 t2 y0 y1
    generalize hq : (c % sh == k) = q at *
    cases q
    ·have E2 : Hid (DoAt w0 w1 C h p la lc rc tc vc sa ra wa va sc l sh { S with wr := setB S.wr n k, st := putSh sh k S.st ((keysOf (gX l n).ss).take (j + 1)) (M.take (j + 1)) } g0 c1 c2 c3 hi gr gw gv Br Bw Bv) := by
      have e := HP.out
      rw [if_neg (by simp at hq; simpa using hq)] at e
      rw [e]; exact E1.out
     clear E1 HP
     go_wp2
     go_roundw
     case rel => exact ⟨j + 1, by omega, by go_num, E2, A1, F1⟩
     case measure => simp [intOf]; omega
    ·have y0 := E1.out.h0
     have y1 := E1.out.h1
     obtain ⟨e1, e2, _, e4, e5⟩ := E1.out.own.st.e (by decide)
     have z0 := e4 c hc8
     have z1 := e5 c
     rw [e1] at y1
     have E2 : Hid (DoAt w0 (w1.setCell ⟨g0, c, none⟩ (.int .i64 uu)) C h p la lc rc tc vc sa ra wa va sc l sh { S with wr := setB S.wr n k, st := putSh sh k S.st ((keysOf (gX l n).ss).take (j + 1)) (M.take (j + 1)) } g0 c1 c2 c3 hi gr gw gv Br Bw Bv ∧ Below C w (w1.setCell ⟨g0, c, none⟩ (.int .i64 uu)) ∧ IsAt W.heap.size hiM (w1.setCell ⟨g0, c, none⟩ (.int .i64 uu)) (some ⟨bm, om, none⟩) M) := by
      have e := HP.out
      rw [if_pos (by simpa using hq)] at e
      rw [e]
      exact ⟨E1.out.to ((Below.refl _ _).setCell (by show C ≤ g0; exact e2) _) (E1.out.own.setS hc8 uu), F1.out.setCell (by show C ≤ g0; exact e2) _, A1.out.set ⟨g0, c, none⟩ _ (.inl gW.out)⟩
     generalize Value.int .i64 ((putSh sh k S.st ((keysOf (gX l n).ss).take j) (M.take j)).getD c 0) = old at *
     clear E1 HP e4 e5 e1 A1 F1
     go_wp2
     go_roundw
     case rel => exact ⟨j + 1, by omega, by go_num, E2.out.1, E2.out.2.2, E2.out.2.1⟩
     case measure => simp [intOf]; omega
   ·have hjN : j = M.length := by omega
    subst hjN
    have FX : Hid (DoAt w0 wr C h p la lc rc tc vc sa ra wa va sc l sh S9 g0 c1 c2 c3 hi gr gw gv Br Bw Bv) := by
     rw [HSX.out]
     have h := hD.out
     rw [List.take_length, putSh_cut sh k _ _ _ (by rw [keys_len]; exact HML.out)] at h
     exact h
    clear hD hA
    go_wp2
    go_end0
    exact ⟨rfl, FX.out, hB.out⟩
end Go.Proofs.YtcgpkonfneofdaaGreat
