/-
  What a step writes into a state of one's own.
  Conditions: those that each theorem states.
-/
import Derived.Test.YtebjkmknhpgemaaGreatOwnB
import Derived.WalkKit
import Derived.WalkSpells
import Derived.WalkLawsBesides
import Derived.Defers
import Derived.Recover
import Derived.ProofKit
import Derived.Deep.RegionHeld
import Derived.Deep.RegionHeld3
import Derived.Deep.RegionLaw
import Derived.Deep.DeepCutAuto
import Derived.Deep.QuietTactic
import Derived.BigQuiet
import Derived.Maps.AppendAt
import Derived.Lib.SliceRun
import Derived.Deep.AppendLies
namespace Go.Proofs.YtebjkmknhpgemaaGreat
open Go.RowKit

theorem mixT_get (sh k : Nat) (s : List Int) : ∀ (rs vs : List Int) (i j : Nat), vs.length = rs.length → j < rs.length → (mixV sh k s (rs.take i) vs).getD j 0 = if j < i ∧ (rs.getD j 0).toNat % sh = k then getAt s (rs.getD j 0) else vs.getD j 0
  | [], _, _, j, _, hj => absurd hj (Nat.not_lt_zero _)
  | r :: rs, [], i, j, hl, _ => by simp at hl
  | r :: rs, v :: vs, 0, j, _, _ => by simp [mixV]
  | r :: rs, v :: vs, i + 1, 0, _, _ => by simp [mixV]
  | r :: rs, v :: vs, i + 1, j + 1, hl, hj => by
    have := mixT_get sh k s rs vs i j (by simpa using hl) (by simpa using hj)
    simp only [List.take_succ_cons, mixV, List.getD_cons_succ, this, Nat.add_lt_add_iff_right]
theorem putSh_take (sh k : Nat) : ∀ (ks s vs : List Int) (i : Nat), i < ks.length → i < vs.length → putSh sh k s (ks.take (i + 1)) (vs.take (i + 1)) = if (ks.getD i 0).toNat % sh = k then (putSh sh k s (ks.take i) (vs.take i)).set (ks.getD i 0).toNat (vs.getD i 0) else putSh sh k s (ks.take i) (vs.take i)
  | a :: ks, s, v :: vs, 0, _, _ => by simp [putSh]
  | a :: ks, s, v :: vs, i + 1, h, h' => by
    simp only [List.take_succ_cons, putSh, List.getD_cons_succ]
    exact putSh_take sh k ks _ vs i (by simpa using h) (by simpa using h')
  | [], _, _, _, h, _ => absurd h (Nat.not_lt_zero _)
  | _ :: _, _, [], _, _, h => absurd h (Nat.not_lt_zero _)
theorem putSh_cut (sh k : Nat) : ∀ (ks s vs : List Int), vs.length ≤ ks.length → putSh sh k s (ks.take vs.length) vs = putSh sh k s ks vs
  | [], s, vs, _ => by simp
  | a :: ks, s, [], _ => by simp [putSh]
  | a :: ks, s, v :: vs, h => by
    simp only [List.length_cons, List.take_succ_cons, putSh]
    exact putSh_cut sh k ks _ vs (by simpa using h)
/-- Other states in the same memory. -/
theorem OwnSt.setRd {C : Nat} {w : World} {sa ra wa va : Option Addr} {sc : Nat} {l : List TxA} {sh : Nat} {S : SA} {g0 c1 c2 c3 hi gr gw gv : Nat} {Br Bw Bv : Nat → Nat} (h : OwnSt C w sa ra wa va sc l sh S g0 c1 c2 c3 hi gr gw gv Br Bw Bv) {n k : Nat} (hn : n < l.length) (hk : k < sh) : OwnSt C (w.setCell ⟨Br n, k, none⟩ (.bool true)) sa ra wa va sc l sh { S with rd := setB S.rd n k } g0 c1 c2 c3 hi gr gw gv Br Bw Bv := by
  obtain ⟨b1, b2, _⟩ := h.rd.b n hn (Nat.lt_of_le_of_lt (Nat.zero_le _) hk)
  have k1 := h.h1
  have k2 := h.h2
  have k3 := h.h3
  have k4 := h.h4
  refine ⟨h.st.keep (set_block _ _ _ _ _ (by omega)) (by rw [World.size_setCell]; exact Nat.le_refl _), k1, k2, k3, k4, by rw [World.size_setCell]; exact h.h5, h.rd.set hn hk (.bool true) (fun i j hi hj => ?_), h.wr.far _ _ _ (by omega), h.vs.far _ _ _ (by omega), ?_⟩
  · rw [at2_setB (by rw [h.f.rd]; exact hn) (by rw [h.f.rn n hn]; exact hk)]
    by_cases e : i = n ∧ j = k
    · rw [if_pos ⟨e.1.symm, e.2.symm⟩, if_pos e]
    · rw [if_neg (fun q => e ⟨q.1.symm, q.2.symm⟩), if_neg e]
  · exact ⟨h.f.st, by rw [setB_len]; exact h.f.rd, h.f.wr, h.f.vs, fun i hi => by rw [setB_row]; exact h.f.rn i hi, h.f.wn, h.f.vn⟩
theorem OwnSt.setWr {C : Nat} {w : World} {sa ra wa va : Option Addr} {sc : Nat} {l : List TxA} {sh : Nat} {S : SA} {g0 c1 c2 c3 hi gr gw gv : Nat} {Br Bw Bv : Nat → Nat} (h : OwnSt C w sa ra wa va sc l sh S g0 c1 c2 c3 hi gr gw gv Br Bw Bv) {n k : Nat} (hn : n < l.length) (hk : k < sh) : OwnSt C (w.setCell ⟨Bw n, k, none⟩ (.bool true)) sa ra wa va sc l sh { S with wr := setB S.wr n k } g0 c1 c2 c3 hi gr gw gv Br Bw Bv := by
  obtain ⟨b1, b2, _⟩ := h.wr.b n hn (Nat.lt_of_le_of_lt (Nat.zero_le _) hk)
  have k1 := h.h1
  have k2 := h.h2
  have k3 := h.h3
  have k4 := h.h4
  refine ⟨h.st.keep (set_block _ _ _ _ _ (by omega)) (by rw [World.size_setCell]; exact Nat.le_refl _), k1, k2, k3, k4, by rw [World.size_setCell]; exact h.h5, h.rd.far _ _ _ (by omega), h.wr.set hn hk (.bool true) (fun i j hi hj => ?_), h.vs.far _ _ _ (by omega), ?_⟩
  · rw [at2_setB (by rw [h.f.wr]; exact hn) (by rw [h.f.wn n hn]; exact hk)]
    by_cases e : i = n ∧ j = k
    · rw [if_pos ⟨e.1.symm, e.2.symm⟩, if_pos e]
    · rw [if_neg (fun q => e ⟨q.1.symm, q.2.symm⟩), if_neg e]
  · exact ⟨h.f.st, h.f.rd, by rw [setB_len]; exact h.f.wr, h.f.vs, h.f.rn, fun i hi => by rw [setB_row]; exact h.f.wn i hi, h.f.vn⟩
theorem OwnSt.setV {C : Nat} {w : World} {sa ra wa va : Option Addr} {sc : Nat} {l : List TxA} {sh : Nat} {S : SA} {g0 c1 c2 c3 hi gr gw gv : Nat} {Br Bw Bv : Nat → Nat} (h : OwnSt C w sa ra wa va sc l sh S g0 c1 c2 c3 hi gr gw gv Br Bw Bv) {n i : Nat} (hn : n < l.length) (hi' : i < (gX l n).rs.length) (u : Int) (V : List (List Int)) (hV : ∀ a j, a < l.length → j < (gX l a).rs.length → (V.getD a []).getD j 0 = if a = n ∧ j = i then u else (S.vs.getD a []).getD j 0) (hl : V.length = l.length) (hr : ∀ a, a < l.length → (V.getD a []).length = (gX l a).rs.length) : OwnSt C (w.setCell ⟨Bv n, i, none⟩ (.int .i64 u)) sa ra wa va sc l sh { S with vs := V } g0 c1 c2 c3 hi gr gw gv Br Bw Bv := by
  obtain ⟨b1, b2, _⟩ := h.vs.b n hn (Nat.lt_of_le_of_lt (Nat.zero_le _) hi')
  have k1 := h.h1
  have k2 := h.h2
  have k3 := h.h3
  have k4 := h.h4
  refine ⟨h.st.keep (set_block _ _ _ _ _ (by omega)) (by rw [World.size_setCell]; exact Nat.le_refl _), k1, k2, k3, k4, by rw [World.size_setCell]; exact h.h5, h.rd.far _ _ _ (by omega), h.wr.far _ _ _ (by omega), h.vs.set hn hi' (.int .i64 u) (fun a j ha hj => ?_), ?_⟩
  · show Value.int .i64 ((V.getD a []).getD j 0) = _
    rw [hV a j ha hj]
    by_cases e : a = n ∧ j = i
    · rw [if_pos e, if_pos e]
    · rw [if_neg e, if_neg e]
  · exact ⟨h.f.st, h.f.rd, h.f.wr, hl, h.f.rn, h.f.wn, hr⟩
theorem OwnSt.asV {C : Nat} {w : World} {sa ra wa va : Option Addr} {sc : Nat} {l : List TxA} {sh : Nat} {S : SA} {g0 c1 c2 c3 hi gr gw gv : Nat} {Br Bw Bv : Nat → Nat} (h : OwnSt C w sa ra wa va sc l sh S g0 c1 c2 c3 hi gr gw gv Br Bw Bv) (V : List (List Int)) (hV : ∀ a j, a < l.length → j < (gX l a).rs.length → (V.getD a []).getD j 0 = (S.vs.getD a []).getD j 0) (hl : V.length = l.length) (hr : ∀ a, a < l.length → (V.getD a []).length = (gX l a).rs.length) : OwnSt C w sa ra wa va sc l sh { S with vs := V } g0 c1 c2 c3 hi gr gw gv Br Bw Bv :=
  ⟨h.st, h.h1, h.h2, h.h3, h.h4, h.h5, h.rd, h.wr, h.vs.congr (fun a j ha hj => by show Value.int .i64 ((V.getD a []).getD j 0) = _; rw [hV a j ha hj]), ⟨h.f.st, h.f.rd, h.f.wr, hl, h.f.rn, h.f.wn, hr⟩⟩
theorem OwnSt.setS {C : Nat} {w : World} {sa ra wa va : Option Addr} {sc : Nat} {l : List TxA} {sh : Nat} {S : SA} {g0 c1 c2 c3 hi gr gw gv : Nat} {Br Bw Bv : Nat → Nat} (h : OwnSt C w sa ra wa va sc l sh S g0 c1 c2 c3 hi gr gw gv Br Bw Bv) {c : Nat} (hc : c < 8) (u : Int) : OwnSt C (w.setCell ⟨g0, c, none⟩ (.int .i64 u)) sa ra wa va sc l sh { S with st := S.st.set c u } g0 c1 c2 c3 hi gr gw gv Br Bw Bv := by
  obtain ⟨e1, e2, e3, e4, e5⟩ := h.st.e (by decide)
  have k1 := h.h1
  have k2 := h.h2
  have k3 := h.h3
  have k4 := h.h4
  refine ⟨⟨fun _ => ⟨e1, e2, by rw [World.size_setCell]; exact e3, fun k hk => ?_, fun k => by rw [World.frozen?_setCell]; exact e5 k⟩, h.st.z, h.st.lo⟩, k1, k2, k3, k4, by rw [World.size_setCell]; exact h.h5, h.rd.far _ _ _ (by omega), h.wr.far _ _ _ (by omega), h.vs.far _ _ _ (by omega), ⟨by rw [List.length_set]; exact h.f.st, h.f.rd, h.f.wr, h.f.vs, h.f.rn, h.f.wn, h.f.vn⟩⟩
  show _ = some (Value.int .i64 ((S.st.set c u).getD k 0))
  by_cases e : k = c
  · subst e
    rw [getD_set _ _ _ _ _ (by rw [h.f.st]; exact hk), if_pos rfl]
    exact set_here (e4 k hk)
  · rw [getD_set _ _ _ _ _ (by rw [h.f.st]; exact hc), if_neg (fun q => e q.symm)]
    exact set_off e (e4 k hk)
/-- A hall whose state is its own, and where all lies. -/
structure DoAt (w0 w : World) (C h p : Nat) (la : Option Addr) (lc rc tc vc : Nat) (sa ra wa va : Option Addr) (sc : Nat) (l : List TxA) (sh : Nat) (S : SA) (g0 c1 c2 c3 hi gr gw gv : Nat) (Br Bw Bv : Nat → Nat) : Prop where
  h0 : w.cell? ⟨h, 0, none⟩ = some (.pointer (some ⟨p, 0, none⟩))
  h1 : w.cell? ⟨h, 1, none⟩ = some (.slice sa 8 sc)
  h2 : w.cell? ⟨h, 2, none⟩ = some (.slice ra l.length rc)
  h3 : w.cell? ⟨h, 3, none⟩ = some (.slice wa l.length tc)
  h4 : w.cell? ⟨h, 4, none⟩ = some (.slice va l.length vc)
  p0 : w.cell? ⟨p, 0, none⟩ = some (.int .i64 sh)
  p1 : w.cell? ⟨p, 1, none⟩ = some (.slice la l.length lc)
  hc : h < C
  pc : p < C
  tx : IsTxs w0 la l
  bl : Below w0.heap.size w0 w
  cw : w0.heap.size ≤ C
  own : OwnSt C w sa ra wa va sc l sh S g0 c1 c2 c3 hi gr gw gv Br Bw Bv
  s0 : 0 < sh
  s4 : sh ≤ 4
  l8 : l.length ≤ 8
  ck : chkL l = 0
theorem DoAt.to {w0 w w' : World} {C h p : Nat} {la : Option Addr} {lc rc tc vc : Nat} {sa ra wa va : Option Addr} {sc : Nat} {l : List TxA} {sh : Nat} {S : SA} {g0 c1 c2 c3 hi gr gw gv : Nat} {Br Bw Bv : Nat → Nat} {S' : SA} (D : DoAt w0 w C h p la lc rc tc vc sa ra wa va sc l sh S g0 c1 c2 c3 hi gr gw gv Br Bw Bv) (hb : Below C w w') (ho : OwnSt C w' sa ra wa va sc l sh S' g0 c1 c2 c3 hi gr gw gv Br Bw Bv) : DoAt w0 w' C h p la lc rc tc vc sa ra wa va sc l sh S' g0 c1 c2 c3 hi gr gw gv Br Bw Bv := by
  have q := D.hc
  have q' := D.pc
  exact ⟨(hb.cell (p := ⟨h, 0, none⟩) q).trans D.h0, (hb.cell (p := ⟨h, 1, none⟩) q).trans D.h1, (hb.cell (p := ⟨h, 2, none⟩) q).trans D.h2, (hb.cell (p := ⟨h, 3, none⟩) q).trans D.h3, (hb.cell (p := ⟨h, 4, none⟩) q).trans D.h4, (hb.cell (p := ⟨p, 0, none⟩) q').trans D.p0, (hb.cell (p := ⟨p, 1, none⟩) q').trans D.p1, q, q', D.tx, D.bl.trans (hb.mono D.cw), D.cw, ho, D.s0, D.s4, D.l8, D.ck⟩
theorem DoAt.below {w0 w w' : World} {C h p : Nat} {la : Option Addr} {lc rc tc vc : Nat} {sa ra wa va : Option Addr} {sc : Nat} {l : List TxA} {sh : Nat} {S : SA} {g0 c1 c2 c3 hi gr gw gv : Nat} {Br Bw Bv : Nat → Nat} (D : DoAt w0 w C h p la lc rc tc vc sa ra wa va sc l sh S g0 c1 c2 c3 hi gr gw gv Br Bw Bv) (hb : Below w.heap.size w w') : DoAt w0 w' C h p la lc rc tc vc sa ra wa va sc l sh S g0 c1 c2 c3 hi gr gw gv Br Bw Bv := by
  have e := D.own.h1
  have e5 := D.own.h5
  have e2 := D.own.h2
  have e3 := D.own.h3
  have e4 := D.own.h4
  exact D.to (hb.mono (by omega)) (D.own.below hb)
end Go.Proofs.YtebjkmknhpgemaaGreat
