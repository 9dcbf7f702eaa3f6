/-
  
  Conditions: those that each theorem states.
-/
import Derived.Test.YtcgpkonfneofdaaGreatSOwnB
namespace Go.Proofs.YtcgpkonfneofdaaGreat
open Go.RowKit
theorem mixT_get (sh k : Nat) (s : List Int) : ∀ (rs vs : List Int) (i j : Nat), vs.length = rs.length → j < rs.length → (mixV sh k s (rs.take i) vs).getD j 0 = if j < i ∧ (rs.getD j 0).toNat % sh = k then getAt s (rs.getD j 0) else vs.getD j 0
 | [], _, _, j, _, hj => absurd hj (Nat.not_lt_zero _)
 | r :: rs, [], i, j, hl, _ => by simp at hl
 | r :: rs, v :: vs, 0, j, _, _ => by simp [mixV]
 | r :: rs, v :: vs, i + 1, 0, _, _ => by simp [mixV]
 | r :: rs, v :: vs, i + 1, j + 1, hl, hj => by
  have := mixT_get sh k s rs vs i j (by simpa using hl) (by simpa using hj)
  simp only [List.take_succ_cons, mixV, List.getD_cons_succ, this, Nat.add_lt_add_iff_right]
theorem putSh_take (sh k : Nat) : ∀ (ks s vs : List Int) (i : Nat), i < ks.length → i < vs.length → putSh sh k s (ks.take (i + 1)) (vs.take (i + 1)) = if (ks.getD i 0).toNat % sh = k then (putSh sh k s (ks.take i) (vs.take i)).set (ks.getD i 0).toNat (vs.getD i 0) else putSh sh k s (ks.take i) (vs.take i)
 | a :: ks, s, v :: vs, 0, _, _ => by simp [putSh]
 | a :: ks, s, v :: vs, i + 1, h, h' => by
  simp only [List.take_succ_cons, putSh, List.getD_cons_succ]
  exact putSh_take sh k ks _ vs i (by simpa using h) (by simpa using h')
 | [], _, _, _, h, _ => absurd h (Nat.not_lt_zero _)
 | _ :: _, _, [], _, _, h => absurd h (Nat.not_lt_zero _)
theorem putSh_cut (sh k : Nat) : ∀ (ks s vs : List Int), vs.length ≤ ks.length → putSh sh k s (ks.take vs.length) vs = putSh sh k s ks vs
 | [], s, vs, _ => by simp
 | a :: ks, s, [], _ => by simp [putSh]
 | a :: ks, s, v :: vs, h => by
  simp only [List.length_cons, List.take_succ_cons, putSh]
  exact putSh_cut sh k ks _ vs (by simpa using h)
theorem OwnSt.setRd {C : Nat} {w : World} {sa ra wa va : Option Addr} {sc : Nat} {l : List TxA} {sh : Nat} {S : SA} {g0 c1 c2 c3 hi gr gw gv : Nat} {Br Bw Bv : Nat → Nat} (h : OwnSt C w sa ra wa va sc l sh S g0 c1 c2 c3 hi gr gw gv Br Bw Bv) {n k : Nat} (hn : n < l.length) (hk : k < sh) : OwnSt C (w.setCell ⟨Br n, k, none⟩ (.bool true)) sa ra wa va sc l sh { S with rd := setB S.rd n k } g0 c1 c2 c3 hi gr gw gv Br Bw Bv := by
 obtain ⟨b1, b2, _⟩ := h.rd.b n hn (Nat.lt_of_le_of_lt (Nat.zero_le _) hk)
 have k1 := h.h1
 have k2 := h.h2
 have k3 := h.h3
 have k4 := h.h4
 refine ⟨h.st.keep (set_block _ _ _ _ _ (by omega)) (by rw [World.size_setCell]; exact Nat.le_refl _), k1, k2, k3, k4, by rw [World.size_setCell]; exact h.h5, h.rd.set hn hk (.bool true) (fun i j hi hj => ?_), h.wr.far _ _ _ (by omega), h.vs.far _ _ _ (by omega), ?_⟩
 ·rw [at2_setB (by rw [h.f.rd]; exact hn) (by rw [h.f.rn n hn]; exact hk)]
  by_cases e : i = n ∧ j = k
  ·rw [if_pos ⟨e.1.symm, e.2.symm⟩, if_pos e]
  ·rw [if_neg (fun q => e ⟨q.1.symm, q.2.symm⟩), if_neg e]
 ·exact ⟨h.f.st, by rw [setB_len]; exact h.f.rd, h.f.wr, h.f.vs, fun i hi => by rw [setB_row]; exact h.f.rn i hi, h.f.wn, h.f.vn⟩
theorem OwnSt.setWr {C : Nat} {w : World} {sa ra wa va : Option Addr} {sc : Nat} {l : List TxA} {sh : Nat} {S : SA} {g0 c1 c2 c3 hi gr gw gv : Nat} {Br Bw Bv : Nat → Nat} (h : OwnSt C w sa ra wa va sc l sh S g0 c1 c2 c3 hi gr gw gv Br Bw Bv) {n k : Nat} (hn : n < l.length) (hk : k < sh) : OwnSt C (w.setCell ⟨Bw n, k, none⟩ (.bool true)) sa ra wa va sc l sh { S with wr := setB S.wr n k } g0 c1 c2 c3 hi gr gw gv Br Bw Bv := by
 obtain ⟨b1, b2, _⟩ := h.wr.b n hn (Nat.lt_of_le_of_lt (Nat.zero_le _) hk)
 have k1 := h.h1
 have k2 := h.h2
 have k3 := h.h3
 have k4 := h.h4
 refine ⟨h.st.keep (set_block _ _ _ _ _ (by omega)) (by rw [World.size_setCell]; exact Nat.le_refl _), k1, k2, k3, k4, by rw [World.size_setCell]; exact h.h5, h.rd.far _ _ _ (by omega), h.wr.set hn hk (.bool true) (fun i j hi hj => ?_), h.vs.far _ _ _ (by omega), ?_⟩
 ·rw [at2_setB (by rw [h.f.wr]; exact hn) (by rw [h.f.wn n hn]; exact hk)]
  by_cases e : i = n ∧ j = k
  ·rw [if_pos ⟨e.1.symm, e.2.symm⟩, if_pos e]
  ·rw [if_neg (fun q => e ⟨q.1.symm, q.2.symm⟩), if_neg e]
 ·exact ⟨h.f.st, h.f.rd, by rw [setB_len]; exact h.f.wr, h.f.vs, h.f.rn, fun i hi => by rw [setB_row]; exact h.f.wn i hi, h.f.vn⟩
theorem OwnSt.setV {C : Nat} {w : World} {sa ra wa va : Option Addr} {sc : Nat} {l : List TxA} {sh : Nat} {S : SA} {g0 c1 c2 c3 hi gr gw gv : Nat} {Br Bw Bv : Nat → Nat} (h : OwnSt C w sa ra wa va sc l sh S g0 c1 c2 c3 hi gr gw gv Br Bw Bv) {n i : Nat} (hn : n < l.length) (hi' : i < (gX l n).rs.length) (u : Int) (V : List (List Int)) (hV : ∀ a j, a < l.length → j < (gX l a).rs.length → (V.getD a []).getD j 0 = if a = n ∧ j = i then u else (S.vs.getD a []).getD j 0) (hl : V.length = l.length) (hr : ∀ a, a < l.length → (V.getD a []).length = (gX l a).rs.length) : OwnSt C (w.setCell ⟨Bv n, i, none⟩ (.int .i64 u)) sa ra wa va sc l sh { S with vs := V } g0 c1 c2 c3 hi gr gw gv Br Bw Bv := by
 obtain ⟨b1, b2, _⟩ := h.vs.b n hn (Nat.lt_of_le_of_lt (Nat.zero_le _) hi')
 have k1 := h.h1
 have k2 := h.h2
 have k3 := h.h3
 have k4 := h.h4
 refine ⟨h.st.keep (set_block _ _ _ _ _ (by omega)) (by rw [World.size_setCell]; exact Nat.le_refl _), k1, k2, k3, k4, by rw [World.size_setCell]; exact h.h5, h.rd.far _ _ _ (by omega), h.wr.far _ _ _ (by omega), h.vs.set hn hi' (.int .i64 u) (fun a j ha hj => ?_), ?_⟩
 ·show Value.int .i64 ((V.getD a []).getD j 0) = _
  rw [hV a j ha hj]
  by_cases e : a = n ∧ j = i
  ·rw [if_pos e, if_pos e]
  ·rw [if_neg e, if_neg e]
 ·exact ⟨h.f.st, h.f.rd, h.f.wr, hl, h.f.rn, h.f.wn, hr⟩
theorem OwnSt.asV {C : Nat} {w : World} {sa ra wa va : Option Addr} {sc : Nat} {l : List TxA} {sh : Nat} {S : SA} {g0 c1 c2 c3 hi gr gw gv : Nat} {Br Bw Bv : Nat → Nat} (h : OwnSt C w sa ra wa va sc l sh S g0 c1 c2 c3 hi gr gw gv Br Bw Bv) (V : List (List Int)) (hV : ∀ a j, a < l.length → j < (gX l a).rs.length → (V.getD a []).getD j 0 = (S.vs.getD a []).getD j 0) (hl : V.length = l.length) (hr : ∀ a, a < l.length → (V.getD a []).length = (gX l a).rs.length) : OwnSt C w sa ra wa va sc l sh { S with vs := V } g0 c1 c2 c3 hi gr gw gv Br Bw Bv :=
 ⟨h.st, h.h1, h.h2, h.h3, h.h4, h.h5, h.rd, h.wr, h.vs.congr (fun a j ha hj => by show Value.int .i64 ((V.getD a []).getD j 0) = _; rw [hV a j ha hj]), ⟨h.f.st, h.f.rd, h.f.wr, hl, h.f.rn, h.f.wn, hr⟩⟩
theorem OwnSt.setS {C : Nat} {w : World} {sa ra wa va : Option Addr} {sc : Nat} {l : List TxA} {sh : Nat} {S : SA} {g0 c1 c2 c3 hi gr gw gv : Nat} {Br Bw Bv : Nat → Nat} (h : OwnSt C w sa ra wa va sc l sh S g0 c1 c2 c3 hi gr gw gv Br Bw Bv) {c : Nat} (hc : c < 8) (u : Int) : OwnSt C (w.setCell ⟨g0, c, none⟩ (.int .i64 u)) sa ra wa va sc l sh { S with st := S.st.set c u } g0 c1 c2 c3 hi gr gw gv Br Bw Bv := by
 obtain ⟨e1, e2, e3, e4, e5⟩ := h.st.e (by decide)
 have k1 := h.h1
 have k2 := h.h2
 have k3 := h.h3
 have k4 := h.h4
 refine ⟨⟨fun _ => ⟨e1, e2, by rw [World.size_setCell]; exact e3, fun k hk => ?_, fun k => by rw [World.frozen?_setCell]; exact e5 k⟩, h.st.z, h.st.lo⟩, k1, k2, k3, k4, by rw [World.size_setCell]; exact h.h5, h.rd.far _ _ _ (by omega), h.wr.far _ _ _ (by omega), h.vs.far _ _ _ (by omega), ⟨by rw [List.length_set]; exact h.f.st, h.f.rd, h.f.wr, h.f.vs, h.f.rn, h.f.wn, h.f.vn⟩⟩
 show _ = some (Value.int .i64 ((S.st.set c u).getD k 0))
 by_cases e : k = c
 ·subst e
  rw [getD_set _ _ _ _ _ (by rw [h.f.st]; exact hk), if_pos rfl]
  exact set_here (e4 k hk)
 ·rw [getD_set _ _ _ _ _ (by rw [h.f.st]; exact hc), if_neg (fun q => e q.symm)]
  exact set_off e (e4 k hk)
structure DoAt (w0 w : World) (C h p : Nat) (la : Option Addr) (lc rc tc vc : Nat) (sa ra wa va : Option Addr) (sc : Nat) (l : List TxA) (sh : Nat) (S : SA) (g0 c1 c2 c3 hi gr gw gv : Nat) (Br Bw Bv : Nat → Nat) : Prop where
 h0 : w.cell? ⟨h, 0, none⟩ = some (.pointer (some ⟨p, 0, none⟩))
 h1 : w.cell? ⟨h, 1, none⟩ = some (.slice sa 8 sc)
 h2 : w.cell? ⟨h, 2, none⟩ = some (.slice ra l.length rc)
 h3 : w.cell? ⟨h, 3, none⟩ = some (.slice wa l.length tc)
 h4 : w.cell? ⟨h, 4, none⟩ = some (.slice va l.length vc)
 p0 : w.cell? ⟨p, 0, none⟩ = some (.int .i64 sh)
 p1 : w.cell? ⟨p, 1, none⟩ = some (.slice la l.length lc)
 hc : h < C
 pc : p < C
 tx : IsTxs w0 la l
 bl : Below w0.heap.size w0 w
 cw : w0.heap.size ≤ C
 own : OwnSt C w sa ra wa va sc l sh S g0 c1 c2 c3 hi gr gw gv Br Bw Bv
 s0 : 0 < sh
 s4 : sh ≤ 4
 l8 : l.length ≤ 8
 ck : chkL l = 0
theorem DoAt.to {w0 w w' : World} {C h p : Nat} {la : Option Addr} {lc rc tc vc : Nat} {sa ra wa va : Option Addr} {sc : Nat} {l : List TxA} {sh : Nat} {S : SA} {g0 c1 c2 c3 hi gr gw gv : Nat} {Br Bw Bv : Nat → Nat} {S' : SA} (D : DoAt w0 w C h p la lc rc tc vc sa ra wa va sc l sh S g0 c1 c2 c3 hi gr gw gv Br Bw Bv) (hb : Below C w w') (ho : OwnSt C w' sa ra wa va sc l sh S' g0 c1 c2 c3 hi gr gw gv Br Bw Bv) : DoAt w0 w' C h p la lc rc tc vc sa ra wa va sc l sh S' g0 c1 c2 c3 hi gr gw gv Br Bw Bv := by
 have q := D.hc
 have q' := D.pc
 exact ⟨(hb.cell (p := ⟨h, 0, none⟩) q).trans D.h0, (hb.cell (p := ⟨h, 1, none⟩) q).trans D.h1, (hb.cell (p := ⟨h, 2, none⟩) q).trans D.h2, (hb.cell (p := ⟨h, 3, none⟩) q).trans D.h3, (hb.cell (p := ⟨h, 4, none⟩) q).trans D.h4, (hb.cell (p := ⟨p, 0, none⟩) q').trans D.p0, (hb.cell (p := ⟨p, 1, none⟩) q').trans D.p1, q, q', D.tx, D.bl.trans (hb.mono D.cw), D.cw, ho, D.s0, D.s4, D.l8, D.ck⟩
theorem DoAt.below {w0 w w' : World} {C h p : Nat} {la : Option Addr} {lc rc tc vc : Nat} {sa ra wa va : Option Addr} {sc : Nat} {l : List TxA} {sh : Nat} {S : SA} {g0 c1 c2 c3 hi gr gw gv : Nat} {Br Bw Bv : Nat → Nat} (D : DoAt w0 w C h p la lc rc tc vc sa ra wa va sc l sh S g0 c1 c2 c3 hi gr gw gv Br Bw Bv) (hb : Below w.heap.size w w') : DoAt w0 w' C h p la lc rc tc vc sa ra wa va sc l sh S g0 c1 c2 c3 hi gr gw gv Br Bw Bv := by
 have e := D.own.h1
 have e5 := D.own.h5
 have e2 := D.own.h2
 have e3 := D.own.h3
 have e4 := D.own.h4
 exact D.to (hb.mono (by omega)) (D.own.below hb)
end Go.Proofs.YtcgpkonfneofdaaGreat
namespace Go.Proofs.YtcgpkonfneofdaaGreat
open Go.RowKit
theorem DoAt.reads {w0 w : World} {C h p : Nat} {la : Option Addr} {lc rc tc vc : Nat} {sa ra wa va : Option Addr} {sc : Nat} {l : List TxA} {sh : Nat} {S : SA} {g0 c1 c2 c3 hi gr gw gv : Nat} {Br Bw Bv : Nat → Nat} (D : DoAt w0 w C h p la lc rc tc vc sa ra wa va sc l sh S g0 c1 c2 c3 hi gr gw gv Br Bw Bv) {n : Nat} (hn : n < l.length) : ∃ b off, la = some ⟨b, off, none⟩ ∧ w.cell? ⟨b, off + n * 3, none⟩ = some (.slice (gX l n).ra (gX l n).rs.length (gX l n).rc) ∧ w.cell? ⟨b, off + n * 3 + 1, none⟩ = some (.slice (gX l n).ga (gX l n).gs.length (gX l n).gc) ∧ w.cell? ⟨b, off + n * 3 + 2, none⟩ = some (.slice (gX l n).sa (gX l n).ss.length (gX l n).sc) ∧ IsTx w (gX l n).ra (gX l n).ga (gX l n).sa (gX l n).rs (gX l n).gs (gX l n).ss := by
 obtain ⟨b, off, e, _, c0, c1, c2, hx⟩ := (D.tx.below D.bl) n hn
 exact ⟨b, off, e, c0, c1, c2, hx.t⟩
theorem DoAt.good {w0 w : World} {C h p : Nat} {la : Option Addr} {lc rc tc vc : Nat} {sa ra wa va : Option Addr} {sc : Nat} {l : List TxA} {sh : Nat} {S : SA} {g0 c1 c2 c3 hi gr gw gv : Nat} {Br Bw Bv : Nat → Nat} (D : DoAt w0 w C h p la lc rc tc vc sa ra wa va sc l sh S g0 c1 c2 c3 hi gr gw gv Br Bw Bv) {n : Nat} (hn : n < l.length) : Good (gX l n) := good_of (chkL_in D.ck n hn)
theorem DoAt.cs {w0 w : World} {C h p : Nat} {la : Option Addr} {lc rc tc vc : Nat} {sa ra wa va : Option Addr} {sc : Nat} {l : List TxA} {sh : Nat} {S : SA} {g0 c1 c2 c3 hi gr gw gv : Nat} {Br Bw Bv : Nat → Nat} (D : DoAt w0 w C h p la lc rc tc vc sa ra wa va sc l sh S g0 c1 c2 c3 hi gr gw gv Br Bw Bv) : C ≤ w.heap.size := by
 have e := D.own.h1
 have e5 := D.own.h5
 have e2 := D.own.h2
 have e3 := D.own.h3
 have e4 := D.own.h4
 omega
variable {w0 w : World} {C h p : Nat} {la : Option Addr} {lc rc tc vc : Nat} {sa ra wa va : Option Addr} {sc : Nat} {l : List TxA} {sh : Nat} {S : SA} {g0 c1 c2 c3 hi gr gw gv : Nat} {Br Bw Bv : Nat → Nat}
set_option maxRecDepth 100000 in
set_option maxHeartbeats 4000000 in
theorem read_at (D : DoAt w0 w C h p la lc rc tc vc sa ra wa va sc l sh S g0 c1 c2 c3 hi gr gw gv Br Bw Bv) {n k : Nat} (hn : n < l.length) (hk : k < sh) :
  Calls Tryz.prog 91 #[.pointer (some ⟨h, 0, none⟩), .int .i64 n, .int .i64 k] w fun e w' => e = .returned (.tuple #[]) ∧ DoAt w0 w' C h p la lc rc tc vc sa ra wa va sc l sh (readX sh l S n k) g0 c1 c2 c3 hi gr gw gv Br Bw Bv ∧ Below C w w' := by
 have h1 := D.own.h1
 have h2 := D.own.h2
 have h3 := D.own.h3
 have h4 := D.own.h4
 have h5 := D.own.h5
 have hl8 := D.l8
 have hs4 := D.s4
 have hs0 := D.s0
 have W1O := D.own.setRd hn hk
 have W1B : Below C w (w.setCell ⟨Br n, k, none⟩ (.bool true)) := (Below.refl _ _).setCell (by obtain ⟨b1, _⟩ := D.own.rd.b n hn hs0; show C ≤ Br n; omega) _
 have D1 : Hid (DoAt w0 (w.setCell ⟨Br n, k, none⟩ (.bool true)) C h p la lc rc tc vc sa ra wa va sc l sh { S with rd := setB S.rd n k } g0 c1 c2 c3 hi gr gw gv Br Bw Bv) := D.to W1B W1O
 have B1 : Hid (Below C w (w.setCell ⟨Br n, k, none⟩ (.bool true))) := W1B
 have HG : Hid (Good (gX l n)) := D.good hn
 obtain ⟨era, _, _⟩ := D.own.rd.ad (by omega)
 obtain ⟨a', c', r0, r1, _, _⟩ := D.own.rd.o n hn
 have r1 := r1 hs0
 subst r1
 have r2 := D.own.rd.c n k hn hk
 have r3 := D.own.rd.f n k hn hs0
 have x0 := D.h0
 have x2 := D.h2
 rw [era] at x2
 have HF : Hid (Form sh l S) := D.own.f
 clear W1B W1O D h1 h2 h3 h4 h5 era
 go_enter Tryz.func91, Tryz.ntmps91
 go_upto_region 1 with fail
 clear x0 x2 r0 r2 r3
 generalize (w.setCell ⟨Br n, k, none⟩ (.bool true)) = W at *
 obtain ⟨b, off, ela, q0, _, _, hx⟩ := D1.out.reads hn
 have x0 := D1.out.h0
 have x1 := D1.out.p1
 rw [ela] at x1
 have hl4 := hx.lr
 unfold maxLen at hl4
 clear hx
 have HVL : Hid ((S.vs.getD n []).length = (gX l n).rs.length) := HF.out.vn n hn
 have DS : Hid (DoAt w0 W C h p la lc rc tc vc sa ra wa va sc l sh { S with rd := setB S.rd n k, vs := S.vs.set n (mixV sh k S.st ((gX l n).rs.take 0) (S.vs.getD n [])) } g0 c1 c2 c3 hi gr gw gv Br Bw Bv) := by
  have e : S.vs.set n (mixV sh k S.st ((gX l n).rs.take 0) (S.vs.getD n [])) = S.vs := by
   show S.vs.set n (mixV sh k S.st [] (S.vs.getD n [])) = S.vs
   have : mixV sh k S.st [] (S.vs.getD n []) = S.vs.getD n [] := by cases S.vs.getD n [] <;> rfl
   rw [this]
   have hnv : n < S.vs.length := by rw [HF.out.vs]; exact hn
   rw [List.getD_eq_getElem?_getD, List.getElem?_eq_getElem hnv]
   simp
  rw [e]
  exact D1.out
 have FIN : Hid ((gX l n).rs.take (gX l n).rs.length = (gX l n).rs) := List.take_length
 have HRL : Hid (∀ i, i < (gX l n).rs.length → (gX l n).rs.getD i 0 ∈ (gX l n).rs) := fun i hi => by
  rw [List.getD_eq_getElem?_getD, List.getElem?_eq_getElem hi]
  exact List.getElem_mem hi
 obtain ⟨xa, exa⟩ : ∃ xa, (gX l n).ra = xa := ⟨_, rfl⟩
 rw [exa] at q0
 have EXA : Hid ((gX l n).ra = xa) := exa
 clear exa
 generalize hN : (gX l n).rs.length = N at *
 go_wp2
 go_loopw [6, 7, 30] (fun _ _ i wr => ∃ j : Nat, j ≤ N ∧ i = .int .i64 j ∧ Hid (DoAt w0 wr C h p la lc rc tc vc sa ra wa va sc l sh { S with rd := setB S.rd n k, vs := S.vs.set n (mixV sh k S.st ((gX l n).rs.take j) (S.vs.getD n [])) } g0 c1 c2 c3 hi gr gw gv Br Bw Bv) ∧ Hid (Below C w wr)) (fun _ _ i _ => N - (intOf i).toNat)
 case atStart => exact ⟨0, Nat.zero_le _, rfl, DS, B1⟩
 case round =>
  obtain ⟨j, hj, rfl, hD, hB⟩ := hrel
  clear DS D1 B1 x0 x1 ela
  by_cases hlt : j < N
  ·have i1 : (j : Int) < (N : Int) := by omega
   obtain ⟨_, _, _, _, _, _, hx⟩ := hD.out.reads hn
   obtain ⟨b', off', ea, _, k0⟩ := hx.r j (by omega)
   clear hx
   have ea := EXA.out.symm.trans ea
   subst ea
   have HT : Hid ((gX l n).rs.getD j 0 ∈ (gX l n).rs) := HRL.out j hlt
   obtain ⟨hz, hz'⟩ := HG.out.r _ HT.out
   have HZ : Hid ((gX l n).rs.getD j 0 = (gX l n).rs.getD j 0) := rfl
   generalize hz0 : (gX l n).rs.getD j 0 = z at hz hz' k0 HT
   obtain ⟨c, rfl⟩ := Int.eq_ofNat_of_zero_le hz
   have hc8 : c < 8 := by omega
   have HC : Hid ((gX l n).rs.getD j 0 = (c : Int)) := hz0
   have CL : Hid (Calls Tryz.prog 116 #[.pointer (some ⟨h, 0, none⟩), .int .i64 c, .int .i64 k] wr fun e w' => e = .returned (.bool (c % sh == k)) ∧ Below wr.heap.size wr w') := lies_at wr h p sh hD.out.h0 hD.out.p0 hs0 hs4 hc8
   have hVL : Hid (∀ V : List Int, V.length = N → ∀ a, a < l.length → ((S.vs.set n V).getD a []).length = (gX l a).rs.length) := fun V hV a ha => by
    rw [getD_set _ _ _ _ _ (by rw [HF.out.vs]; exact hn)]
    by_cases e : n = a
    ·subst e; rw [if_pos rfl, hV, hN]
    ·rw [if_neg e]; exact HF.out.vn a ha
   have hML : ∀ i, (mixV sh k S.st ((gX l n).rs.take i) (S.vs.getD n [])).length = N := fun i => by rw [mixV_len, HVL.out]
   have hVg : ∀ a m, a < l.length → m < (gX l a).rs.length → ((S.vs.set n (mixV sh k S.st ((gX l n).rs.take (j + 1)) (S.vs.getD n []))).getD a []).getD m 0 = if (c % sh == k) = true ∧ a = n ∧ m = j then S.st.getD c 0 else ((S.vs.set n (mixV sh k S.st ((gX l n).rs.take j) (S.vs.getD n []))).getD a []).getD m 0 := fun a m ha hm => by
    rw [getD_set _ _ _ _ _ (by rw [HF.out.vs]; exact hn), getD_set _ _ _ _ _ (by rw [HF.out.vs]; exact hn)]
    by_cases e : n = a
    ·subst e
     rw [if_pos rfl, if_pos rfl, mixT_get _ _ _ _ _ _ _ (by rw [HVL.out, hN]) hm, mixT_get _ _ _ _ _ _ _ (by rw [HVL.out, hN]) hm]
     by_cases em : m = j
     ·subst em
      simp only [HC.out, Int.toNat_natCast, Nat.lt_succ_self, true_and, Nat.lt_irrefl, false_and, if_false, and_true, beq_iff_eq]
      rfl
     ·have e1 : (m < j + 1) = (m < j) := by simp; omega
      simp only [e1, em, and_false, if_false]
    ·rw [if_neg e, if_neg e, if_neg (fun q => e q.2.1.symm)]
   have HV : Hid (∀ a m, a < l.length → m < (gX l a).rs.length → ((S.vs.set n (mixV sh k S.st ((gX l n).rs.take (j + 1)) (S.vs.getD n []))).getD a []).getD m 0 = if (c % sh == k) = true ∧ a = n ∧ m = j then S.st.getD c 0 else ((S.vs.set n (mixV sh k S.st ((gX l n).rs.take j) (S.vs.getD n []))).getD a []).getD m 0) := hVg
   have HML : Hid (∀ i, (mixV sh k S.st ((gX l n).rs.take i) (S.vs.getD n [])).length = N) := hML
   have HSL : Hid (∀ V : List Int, (S.vs.set n V).length = l.length) := fun V => by rw [List.length_set]; exact HF.out.vs
   clear hML hVg HZ hz0 HT HRL hz hz'
   go_wp2_with fail
   refine CL.out.mono ?_
   rintro e w1 ⟨rfl, hb1⟩
   have E1 : Hid (DoAt w0 w1 C h p la lc rc tc vc sa ra wa va sc l sh { S with rd := setB S.rd n k, vs := S.vs.set n (mixV sh k S.st ((gX l n).rs.take j) (S.vs.getD n [])) } g0 c1 c2 c3 hi gr gw gv Br Bw Bv) := hD.out.below hb1
   have F1 : Hid (Below C w w1) := hB.out.trans (hb1.mono (by have := hD.out.own.h1; have := hD.out.own.h2; have := hD.out.own.h3; have := hD.out.own.h4; have := hD.out.own.h5; omega))
   clear CL hb1 hD hB k0
   generalize hq : (c % sh == k) = q at *
   cases q
   ·have E2 : Hid (DoAt w0 w1 C h p la lc rc tc vc sa ra wa va sc l sh { S with rd := setB S.rd n k, vs := S.vs.set n (mixV sh k S.st ((gX l n).rs.take (j + 1)) (S.vs.getD n [])) } g0 c1 c2 c3 hi gr gw gv Br Bw Bv) := E1.out.to (Below.refl _ _) (E1.out.own.asV (S.vs.set n (mixV sh k S.st ((gX l n).rs.take (j + 1)) (S.vs.getD n []))) (fun a m ha hm => by rw [HV.out a m ha hm]; simp) (HSL.out _) (hVL.out _ (HML.out _)))
    clear E1 HV HSL hVL HML
    go_wp2
    go_roundw
    case rel => exact ⟨j + 1, by omega, by go_num, E2, F1⟩
    case measure => simp [intOf]; omega
   ·have E2 : Hid (DoAt w0 (w1.setCell ⟨Bv n, j, none⟩ (.int .i64 (S.st.getD c 0))) C h p la lc rc tc vc sa ra wa va sc l sh { S with rd := setB S.rd n k, vs := S.vs.set n (mixV sh k S.st ((gX l n).rs.take (j + 1)) (S.vs.getD n [])) } g0 c1 c2 c3 hi gr gw gv Br Bw Bv ∧ Below C w (w1.setCell ⟨Bv n, j, none⟩ (.int .i64 (S.st.getD c 0)))) := by
     have o := E1.out.own.setV hn (by rw [hN]; exact hlt) (S.st.getD c 0) (S.vs.set n (mixV sh k S.st ((gX l n).rs.take (j + 1)) (S.vs.getD n []))) (fun a m ha hm => by rw [HV.out a m ha hm]; simp) (HSL.out _) (hVL.out _ (HML.out _))
     have g1 := E1.out.own.h1
     have g2 := E1.out.own.h2
     have g3 := E1.out.own.h3
     obtain ⟨b1, _⟩ := E1.out.own.vs.b n hn (by rw [hN]; omega)
     exact ⟨E1.out.to ((Below.refl _ _).setCell (by show C ≤ Bv n; omega) _) o, F1.out.setCell (by show C ≤ Bv n; omega) _⟩
    have y0 := E1.out.h0
    have HU : Hid (S.st.getD c 0 = S.st.getD c 0) := rfl
    have y1 := E1.out.h1
    have y4 := E1.out.h4
    obtain ⟨e1, _, _, e4, e5⟩ := E1.out.own.st.e (by decide)
    have z0 : w1.cell? ⟨g0, c, none⟩ = some (.int .i64 (S.st.getD c 0)) := e4 c hc8
    obtain ⟨f1, _, _⟩ := E1.out.own.vs.ad (by omega)
    obtain ⟨a', c', v0, v1, _, _⟩ := E1.out.own.vs.o n hn
    have v1 := v1 (by rw [hN]; omega)
    have v2 := E1.out.own.vs.c n j hn (by rw [hN]; exact hlt)
    have v3 := E1.out.own.vs.f n j hn (by rw [hN]; omega)
    rw [v1, hN] at v0
    rw [e1] at y1
    rw [f1] at y4
    clear E1 HV HSL hVL HML e4 e5 e1 f1 v1 HU
    generalize S.st.getD c 0 = uu at *
    go_wp2_with fail
    go_region
    all_goals go_wp2
    all_goals (
     go_roundw
     case rel => exact ⟨j + 1, by omega, by go_num, E2.out.1.below (grow_drew (Below.refl _ _)), E2.out.2.trans ((grow_drew (Below.refl _ _)).mono E2.out.1.cs)⟩
     case measure => simp [intOf]; omega)
  ·have hjN : j = N := by omega
   subst hjN
   rw [FIN.out] at hD
   go_wp2
   go_end0
   exact ⟨rfl, hD.out, hB.out⟩
end Go.Proofs.YtcgpkonfneofdaaGreat
