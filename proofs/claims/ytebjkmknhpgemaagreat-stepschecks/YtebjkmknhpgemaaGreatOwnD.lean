/-
  What a step reads.
  Conditions: those that each theorem states.
-/
import Derived.Test.YtebjkmknhpgemaaGreatOwnC
import Derived.WalkKit
import Derived.WalkSpells
import Derived.WalkLawsBesides
import Derived.Defers
import Derived.Recover
import Derived.ProofKit
import Derived.Deep.RegionHeld
import Derived.Deep.RegionHeld3
import Derived.Deep.RegionLaw
import Derived.Deep.DeepCutAuto
import Derived.Deep.QuietTactic
import Derived.BigQuiet
import Derived.Maps.AppendAt
import Derived.Lib.SliceRun
import Derived.Deep.AppendLies
namespace Go.Proofs.YtebjkmknhpgemaaGreat
open Go.RowKit

/-- Where the reads lie. -/
theorem DoAt.reads {w0 w : World} {C h p : Nat} {la : Option Addr} {lc rc tc vc : Nat} {sa ra wa va : Option Addr} {sc : Nat} {l : List TxA} {sh : Nat} {S : SA} {g0 c1 c2 c3 hi gr gw gv : Nat} {Br Bw Bv : Nat → Nat} (D : DoAt w0 w C h p la lc rc tc vc sa ra wa va sc l sh S g0 c1 c2 c3 hi gr gw gv Br Bw Bv) {n : Nat} (hn : n < l.length) : ∃ b off, la = some ⟨b, off, none⟩ ∧ w.cell? ⟨b, off + n * 3, none⟩ = some (.slice (gX l n).ra (gX l n).rs.length (gX l n).rc) ∧ w.cell? ⟨b, off + n * 3 + 1, none⟩ = some (.slice (gX l n).ga (gX l n).gs.length (gX l n).gc) ∧ w.cell? ⟨b, off + n * 3 + 2, none⟩ = some (.slice (gX l n).sa (gX l n).ss.length (gX l n).sc) ∧ IsTx w (gX l n).ra (gX l n).ga (gX l n).sa (gX l n).rs (gX l n).gs (gX l n).ss := by
  obtain ⟨b, off, e, _, c0, c1, c2, hx⟩ := (D.tx.below D.bl) n hn
  exact ⟨b, off, e, c0, c1, c2, hx.t⟩
theorem DoAt.good {w0 w : World} {C h p : Nat} {la : Option Addr} {lc rc tc vc : Nat} {sa ra wa va : Option Addr} {sc : Nat} {l : List TxA} {sh : Nat} {S : SA} {g0 c1 c2 c3 hi gr gw gv : Nat} {Br Bw Bv : Nat → Nat} (D : DoAt w0 w C h p la lc rc tc vc sa ra wa va sc l sh S g0 c1 c2 c3 hi gr gw gv Br Bw Bv) {n : Nat} (hn : n < l.length) : Good (gX l n) := good_of (chkL_in D.ck n hn)

theorem DoAt.cs {w0 w : World} {C h p : Nat} {la : Option Addr} {lc rc tc vc : Nat} {sa ra wa va : Option Addr} {sc : Nat} {l : List TxA} {sh : Nat} {S : SA} {g0 c1 c2 c3 hi gr gw gv : Nat} {Br Bw Bv : Nat → Nat} (D : DoAt w0 w C h p la lc rc tc vc sa ra wa va sc l sh S g0 c1 c2 c3 hi gr gw gv Br Bw Bv) : C ≤ w.heap.size := by
  have e := D.own.h1
  have e5 := D.own.h5
  have e2 := D.own.h2
  have e3 := D.own.h3
  have e4 := D.own.h4
  omega

variable {w0 w : World} {C h p : Nat} {la : Option Addr} {lc rc tc vc : Nat} {sa ra wa va : Option Addr} {sc : Nat} {l : List TxA} {sh : Nat} {S : SA} {g0 c1 c2 c3 hi gr gw gv : Nat} {Br Bw Bv : Nat → Nat}

set_option maxRecDepth 100000 in
set_option maxHeartbeats 4000000 in
theorem read_at (D : DoAt w0 w C h p la lc rc tc vc sa ra wa va sc l sh S g0 c1 c2 c3 hi gr gw gv Br Bw Bv) {n k : Nat} (hn : n < l.length) (hk : k < sh) :
    Calls Tryz.prog 69 #[.pointer (some ⟨h, 0, none⟩), .int .i64 n, .int .i64 k] w fun e w' => e = .returned (.tuple #[]) ∧ DoAt w0 w' C h p la lc rc tc vc sa ra wa va sc l sh (readX sh l S n k) g0 c1 c2 c3 hi gr gw gv Br Bw Bv ∧ Below C w w' := by
  have h1 := D.own.h1
  have h2 := D.own.h2
  have h3 := D.own.h3
  have h4 := D.own.h4
  have h5 := D.own.h5
  have hl8 := D.l8
  have hs4 := D.s4
  have hs0 := D.s0
  have W1O := D.own.setRd hn hk
  have W1B : Below C w (w.setCell ⟨Br n, k, none⟩ (.bool true)) := (Below.refl _ _).setCell (by obtain ⟨b1, _⟩ := D.own.rd.b n hn hs0; show C ≤ Br n; omega) _
  have D1 : Hid (DoAt w0 (w.setCell ⟨Br n, k, none⟩ (.bool true)) C h p la lc rc tc vc sa ra wa va sc l sh { S with rd := setB S.rd n k } g0 c1 c2 c3 hi gr gw gv Br Bw Bv) := D.to W1B W1O
  have B1 : Hid (Below C w (w.setCell ⟨Br n, k, none⟩ (.bool true))) := W1B
  have HG : Hid (Good (gX l n)) := D.good hn
  obtain ⟨era, _, _⟩ := D.own.rd.ad (by omega)
  obtain ⟨a', c', r0, r1, _, _⟩ := D.own.rd.o n hn
  have r1 := r1 hs0
  subst r1
  have r2 := D.own.rd.c n k hn hk
  have r3 := D.own.rd.f n k hn hs0
  have x0 := D.h0
  have x2 := D.h2
  rw [era] at x2
  have HF : Hid (Form sh l S) := D.own.f
  clear W1B W1O D h1 h2 h3 h4 h5 era
  go_enter Tryz.func69, Tryz.ntmps69
  go_upto_region 1 with fail
  clear x0 x2 r0 r2 r3
  generalize (w.setCell ⟨Br n, k, none⟩ (.bool true)) = W at *
  obtain ⟨b, off, ela, q0, _, _, hx⟩ := D1.out.reads hn
  have x0 := D1.out.h0
  have x1 := D1.out.p1
  rw [ela] at x1
  have hl4 := hx.lr
  unfold maxLen at hl4
  clear hx
  have HVL : Hid ((S.vs.getD n []).length = (gX l n).rs.length) := HF.out.vn n hn
  have DS : Hid (DoAt w0 W C h p la lc rc tc vc sa ra wa va sc l sh { S with rd := setB S.rd n k, vs := S.vs.set n (mixV sh k S.st ((gX l n).rs.take 0) (S.vs.getD n [])) } g0 c1 c2 c3 hi gr gw gv Br Bw Bv) := by
    have e : S.vs.set n (mixV sh k S.st ((gX l n).rs.take 0) (S.vs.getD n [])) = S.vs := by
      show S.vs.set n (mixV sh k S.st [] (S.vs.getD n [])) = S.vs
      have : mixV sh k S.st [] (S.vs.getD n []) = S.vs.getD n [] := by cases S.vs.getD n [] <;> rfl
      rw [this]
      have hnv : n < S.vs.length := by rw [HF.out.vs]; exact hn
      rw [List.getD_eq_getElem?_getD, List.getElem?_eq_getElem hnv]
      simp
    rw [e]
    exact D1.out
  have FIN : Hid ((gX l n).rs.take (gX l n).rs.length = (gX l n).rs) := List.take_length
  have HRL : Hid (∀ i, i < (gX l n).rs.length → (gX l n).rs.getD i 0 ∈ (gX l n).rs) := fun i hi => by
    rw [List.getD_eq_getElem?_getD, List.getElem?_eq_getElem hi]
    exact List.getElem_mem hi
  obtain ⟨xa, exa⟩ : ∃ xa, (gX l n).ra = xa := ⟨_, rfl⟩
  rw [exa] at q0
  have EXA : Hid ((gX l n).ra = xa) := exa
  clear exa
  generalize hN : (gX l n).rs.length = N at *
  go_wp2
  go_loopw [6, 7, 30] (fun _ _ i wr => ∃ j : Nat, j ≤ N ∧ i = .int .i64 j ∧ Hid (DoAt w0 wr C h p la lc rc tc vc sa ra wa va sc l sh { S with rd := setB S.rd n k, vs := S.vs.set n (mixV sh k S.st ((gX l n).rs.take j) (S.vs.getD n [])) } g0 c1 c2 c3 hi gr gw gv Br Bw Bv) ∧ Hid (Below C w wr)) (fun _ _ i _ => N - (intOf i).toNat)
  case atStart => exact ⟨0, Nat.zero_le _, rfl, DS, B1⟩
  case round =>
    obtain ⟨j, hj, rfl, hD, hB⟩ := hrel
    clear DS D1 B1 x0 x1 ela
    by_cases hlt : j < N
    · have i1 : (j : Int) < (N : Int) := by omega
      obtain ⟨_, _, _, _, _, _, hx⟩ := hD.out.reads hn
      obtain ⟨b', off', ea, _, k0⟩ := hx.r j (by omega)
      clear hx
      have ea := EXA.out.symm.trans ea
      subst ea
      have HT : Hid ((gX l n).rs.getD j 0 ∈ (gX l n).rs) := HRL.out j hlt
      obtain ⟨hz, hz'⟩ := HG.out.r _ HT.out
      have HZ : Hid ((gX l n).rs.getD j 0 = (gX l n).rs.getD j 0) := rfl
      generalize hz0 : (gX l n).rs.getD j 0 = z at hz hz' k0 HT
      obtain ⟨c, rfl⟩ := Int.eq_ofNat_of_zero_le hz
      have hc8 : c < 8 := by omega
      have HC : Hid ((gX l n).rs.getD j 0 = (c : Int)) := hz0
      have CL : Hid (Calls Tryz.prog 113 #[.pointer (some ⟨h, 0, none⟩), .int .i64 c, .int .i64 k] wr fun e w' => e = .returned (.bool (c % sh == k)) ∧ Below wr.heap.size wr w') := lies_at wr h p sh hD.out.h0 hD.out.p0 hs0 hs4 hc8
      have hVL : Hid (∀ V : List Int, V.length = N → ∀ a, a < l.length → ((S.vs.set n V).getD a []).length = (gX l a).rs.length) := fun V hV a ha => by
        rw [getD_set _ _ _ _ _ (by rw [HF.out.vs]; exact hn)]
        by_cases e : n = a
        · subst e; rw [if_pos rfl, hV, hN]
        · rw [if_neg e]; exact HF.out.vn a ha
      have hML : ∀ i, (mixV sh k S.st ((gX l n).rs.take i) (S.vs.getD n [])).length = N := fun i => by rw [mixV_len, HVL.out]
      have hVg : ∀ a m, a < l.length → m < (gX l a).rs.length → ((S.vs.set n (mixV sh k S.st ((gX l n).rs.take (j + 1)) (S.vs.getD n []))).getD a []).getD m 0 = if (c % sh == k) = true ∧ a = n ∧ m = j then S.st.getD c 0 else ((S.vs.set n (mixV sh k S.st ((gX l n).rs.take j) (S.vs.getD n []))).getD a []).getD m 0 := fun a m ha hm => by
        rw [getD_set _ _ _ _ _ (by rw [HF.out.vs]; exact hn), getD_set _ _ _ _ _ (by rw [HF.out.vs]; exact hn)]
        by_cases e : n = a
        · subst e
          rw [if_pos rfl, if_pos rfl, mixT_get _ _ _ _ _ _ _ (by rw [HVL.out, hN]) hm, mixT_get _ _ _ _ _ _ _ (by rw [HVL.out, hN]) hm]
          by_cases em : m = j
          · subst em
            simp only [HC.out, Int.toNat_natCast, Nat.lt_succ_self, true_and, Nat.lt_irrefl, false_and, if_false, and_true, beq_iff_eq]
            rfl
          · have e1 : (m < j + 1) = (m < j) := by simp; omega
            simp only [e1, em, and_false, if_false]
        · rw [if_neg e, if_neg e, if_neg (fun q => e q.2.1.symm)]
      have HV : Hid (∀ a m, a < l.length → m < (gX l a).rs.length → ((S.vs.set n (mixV sh k S.st ((gX l n).rs.take (j + 1)) (S.vs.getD n []))).getD a []).getD m 0 = if (c % sh == k) = true ∧ a = n ∧ m = j then S.st.getD c 0 else ((S.vs.set n (mixV sh k S.st ((gX l n).rs.take j) (S.vs.getD n []))).getD a []).getD m 0) := hVg
      have HML : Hid (∀ i, (mixV sh k S.st ((gX l n).rs.take i) (S.vs.getD n [])).length = N) := hML
      have HSL : Hid (∀ V : List Int, (S.vs.set n V).length = l.length) := fun V => by rw [List.length_set]; exact HF.out.vs
      clear hML hVg HZ hz0 HT HRL hz hz'
      go_wp2_with fail
      refine CL.out.mono ?_
      rintro e w1 ⟨rfl, hb1⟩
      have E1 : Hid (DoAt w0 w1 C h p la lc rc tc vc sa ra wa va sc l sh { S with rd := setB S.rd n k, vs := S.vs.set n (mixV sh k S.st ((gX l n).rs.take j) (S.vs.getD n [])) } g0 c1 c2 c3 hi gr gw gv Br Bw Bv) := hD.out.below hb1
      have F1 : Hid (Below C w w1) := hB.out.trans (hb1.mono (by have := hD.out.own.h1; have := hD.out.own.h2; have := hD.out.own.h3; have := hD.out.own.h4; have := hD.out.own.h5; omega))
      clear CL hb1 hD hB k0
      generalize hq : (c % sh == k) = q at *
      cases q
      · have E2 : Hid (DoAt w0 w1 C h p la lc rc tc vc sa ra wa va sc l sh { S with rd := setB S.rd n k, vs := S.vs.set n (mixV sh k S.st ((gX l n).rs.take (j + 1)) (S.vs.getD n [])) } g0 c1 c2 c3 hi gr gw gv Br Bw Bv) := E1.out.to (Below.refl _ _) (E1.out.own.asV (S.vs.set n (mixV sh k S.st ((gX l n).rs.take (j + 1)) (S.vs.getD n []))) (fun a m ha hm => by rw [HV.out a m ha hm]; simp) (HSL.out _) (hVL.out _ (HML.out _)))
        clear E1 HV HSL hVL HML
        go_wp2
        go_roundw
        case rel => exact ⟨j + 1, by omega, by go_num, E2, F1⟩
        case measure => simp [intOf]; omega
      · have E2 : Hid (DoAt w0 (w1.setCell ⟨Bv n, j, none⟩ (.int .i64 (S.st.getD c 0))) C h p la lc rc tc vc sa ra wa va sc l sh { S with rd := setB S.rd n k, vs := S.vs.set n (mixV sh k S.st ((gX l n).rs.take (j + 1)) (S.vs.getD n [])) } g0 c1 c2 c3 hi gr gw gv Br Bw Bv ∧ Below C w (w1.setCell ⟨Bv n, j, none⟩ (.int .i64 (S.st.getD c 0)))) := by
          have o := E1.out.own.setV hn (by rw [hN]; exact hlt) (S.st.getD c 0) (S.vs.set n (mixV sh k S.st ((gX l n).rs.take (j + 1)) (S.vs.getD n []))) (fun a m ha hm => by rw [HV.out a m ha hm]; simp) (HSL.out _) (hVL.out _ (HML.out _))
          have g1 := E1.out.own.h1
          have g2 := E1.out.own.h2
          have g3 := E1.out.own.h3
          obtain ⟨b1, _⟩ := E1.out.own.vs.b n hn (by rw [hN]; omega)
          exact ⟨E1.out.to ((Below.refl _ _).setCell (by show C ≤ Bv n; omega) _) o, F1.out.setCell (by show C ≤ Bv n; omega) _⟩
        have y0 := E1.out.h0
        have HU : Hid (S.st.getD c 0 = S.st.getD c 0) := rfl
        have y1 := E1.out.h1
        have y4 := E1.out.h4
        obtain ⟨e1, _, _, e4, e5⟩ := E1.out.own.st.e (by decide)
        have z0 : w1.cell? ⟨g0, c, none⟩ = some (.int .i64 (S.st.getD c 0)) := e4 c hc8
        obtain ⟨f1, _, _⟩ := E1.out.own.vs.ad (by omega)
        obtain ⟨a', c', v0, v1, _, _⟩ := E1.out.own.vs.o n hn
        have v1 := v1 (by rw [hN]; omega)
        have v2 := E1.out.own.vs.c n j hn (by rw [hN]; exact hlt)
        have v3 := E1.out.own.vs.f n j hn (by rw [hN]; omega)
        rw [v1, hN] at v0
        rw [e1] at y1
        rw [f1] at y4
        clear E1 HV HSL hVL HML e4 e5 e1 f1 v1 HU
        generalize S.st.getD c 0 = uu at *
        go_wp2_with fail
        go_region
        all_goals go_wp2
        all_goals (
          go_roundw
          case rel => exact ⟨j + 1, by omega, by go_num, E2.out.1.below (grow_drew (Below.refl _ _)), E2.out.2.trans ((grow_drew (Below.refl _ _)).mono E2.out.1.cs)⟩
          case measure => simp [intOf]; omega)
    · have hjN : j = N := by omega
      subst hjN
      rw [FIN.out] at hD
      go_wp2
      go_end0
      exact ⟨rfl, hD.out, hB.out⟩
end Go.Proofs.YtebjkmknhpgemaaGreat
