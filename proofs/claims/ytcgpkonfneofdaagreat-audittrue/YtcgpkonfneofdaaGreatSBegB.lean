/-
  
  Conditions: those that each theorem states.
-/
import Derived.Test.YtcgpkonfneofdaaGreatSBegA
set_option maxRecDepth 100000
namespace Go.Proofs.YtcgpkonfneofdaaGreat
open Go.RowKit
def BegQ (C : Nat) (l : List TxA) (sh : Nat) (S : SA) (q : Q4) (w : World) : Prop := q.sn = 8 ∧ q.rn = l.length ∧ q.wn = l.length ∧ q.vn = l.length ∧ Form sh l S ∧ ∃ g0 gr gw gv Br Bw Bv, NewRow C w q.sa q.sc g0 8 (fun k => .int .i64 (S.st.getD k 0)) ∧ OR C w.heap.size w q.ra l.length (fun _ => sh) (fun i k => .bool (at2 S.rd i k)) gr Br ∧ OR C w.heap.size w q.wa l.length (fun _ => sh) (fun i k => .bool (at2 S.wr i k)) gw Bw ∧ OR C w.heap.size w q.va l.length (fun i => (gX l i).rs.length) (fun i k => .int .i64 ((S.vs.getD i []).getD k 0)) gv Bv
theorem BegQ.set {C : Nat} {l : List TxA} {sh : Nat} {S : SA} {q : Q4} {w : World} (h : BegQ C l sh S q w) (b j : Nat) (u : Value) (hb : b < C) : BegQ C l sh S q (w.setCell ⟨b, j, none⟩ u) := by
 obtain ⟨e1, e2, e3, e4, f, g0, gr, gw, gv, Br, Bw, Bv, o0, o1, o2, o3⟩ := h
 refine ⟨e1, e2, e3, e4, f, g0, gr, gw, gv, Br, Bw, Bv, o0.keep (set_block _ _ _ _ _ (by have := (o0.e (by decide)).2.1; omega)) (by rw [World.size_setCell]; exact Nat.le_refl _), ?_, ?_, ?_⟩
 ·rw [World.size_setCell]; exact o1.far _ _ _ (.inl hb)
 ·rw [World.size_setCell]; exact o2.far _ _ _ (.inl hb)
 ·rw [World.size_setCell]; exact o3.far _ _ _ (.inl hb)
theorem BegQ.sta {C : Nat} {l : List TxA} {sh : Nat} {S : SA} {q : Q4} {w : World} (h : BegQ C l sh S q w) (h0 : 0 < sh) : StaQ S q w := by
 obtain ⟨e1, e2, e3, e4, f, g0, gr, gw, gv, Br, Bw, Bv, o0, o1, o2, o3⟩ := h
 refine ⟨e1.trans f.st.symm, e2.trans f.rd.symm, e3.trans f.wr.symm, e4.trans f.vs.symm, fun k hk => ?_, fun i hi => ?_, fun i hi => ?_, fun i hi => ?_⟩
 ·rw [f.st] at hk
  obtain ⟨a1, _, a3, a4, _⟩ := o0.e (by decide)
  exact ⟨g0, 0, a1, a3, by rw [Nat.zero_add]; exact a4 k hk⟩
 ·rw [f.rd] at hi
  obtain ⟨b, off, b', off', c', e, q1, q2, q3, q4⟩ := o1.isBR h0 (Nat.le_refl _) i hi
  refine ⟨b, off, some ⟨b', off', none⟩, c', e, q1.2, by rw [f.rn i hi]; exact q3, fun k hk => ?_, fun e => by cases e⟩
  rw [f.rn i hi] at hk
  exact ⟨b', off', rfl, q2.2, q4 k hk⟩
 ·rw [f.wr] at hi
  obtain ⟨b, off, b', off', c', e, q1, q2, q3, q4⟩ := o2.isBR h0 (Nat.le_refl _) i hi
  refine ⟨b, off, some ⟨b', off', none⟩, c', e, q1.2, by rw [f.wn i hi]; exact q3, fun k hk => ?_, fun e => by cases e⟩
  rw [f.wn i hi] at hk
  exact ⟨b', off', rfl, q2.2, q4 k hk⟩
 ·rw [f.vs] at hi
  obtain ⟨b, off, a', c', e, q1, q2, q3, q4, _, q5⟩ := o3.isIR f.vn (Nat.le_refl _) i hi
  exact ⟨b, off, a', c', e, q1.2, by rw [f.vn i hi]; exact q2, q4, q5⟩
theorem BegQ.staF {C : Nat} {l : List TxA} {sh : Nat} {S : SA} {q : Q4} {w : World} (h : BegQ C l sh S q w) (h0 : 0 < sh) : StaF C S q w := fun w' h1 h2 => by
 obtain ⟨e1, e2, e3, e4, f, g0, gr, gw, gv, Br, Bw, Bv, o0, o1, o2, o3⟩ := h
 refine BegQ.sta (C := C) ⟨e1, e2, e3, e4, f, g0, gr, gw, gv, Br, Bw, Bv, o0.keep (h1 g0 (o0.e (by decide)).2.1 (o0.e (by decide)).2.2.1) h2, (o1.keep h1).mono (Nat.le_refl _) h2, (o2.keep h1).mono (Nat.le_refl _) h2, (o3.keep h1).mono (Nat.le_refl _) h2⟩ h0
theorem BegQ.low {C C' : Nat} {l : List TxA} {sh : Nat} {S : SA} {q : Q4} {w : World} (h : BegQ C l sh S q w) (hc : C' ≤ C) : BegQ C' l sh S q w := by
 obtain ⟨e1, e2, e3, e4, f, g0, gr, gw, gv, Br, Bw, Bv, o0, o1, o2, o3⟩ := h
 exact ⟨e1, e2, e3, e4, f, g0, gr, gw, gv, Br, Bw, Bv, ⟨fun hn => ⟨(o0.e hn).1, Nat.le_trans hc (o0.e hn).2.1, (o0.e hn).2.2⟩, o0.z, fun ad e => Nat.le_trans hc (o0.lo ad e)⟩, o1.mono hc (Nat.le_refl _), o2.mono hc (Nat.le_refl _), o3.mono hc (Nat.le_refl _)⟩
theorem vs_beg (l : List TxA) (i k : Nat) : ((l.map fun x => List.replicate x.rs.length (0 : Int)).getD i []).getD k 0 = 0 := by
 rw [List.getD_eq_getElem?_getD, List.getD_eq_getElem?_getD, List.getElem?_map]
 cases l[i]? with
 | none => rfl
 | some x =>
  simp only [Option.map_some, Option.getD_some, List.getElem?_replicate]
  split <;> rfl
theorem run_mk (w : World) (t e : TypeId) (i : TypeInfo) (z : Value) (ht : Tryz.prog.underlying t = some (.slice e)) (hi : Tryz.prog.info? e = some i) (hz : i.zero = some z) (h1 : i.size = 1) (h24 : i.bytes ≤ 24) (n : Nat) (hn : n ≤ 8) : (Instr.makeSlice t (.int .i64 (n : Int)) (.int .i64 (n : Int))).run Tryz.prog w = .ok (.slice (some ⟨w.heap.size, 0, none⟩) n n) (w.alloc (.cells (madeCells z.cells n) e)) := by
 have hb : (i.bytes : Int) * (n : Int) ≤ 281474976710656 := by
  have : i.bytes * n ≤ 24 * 8 := Nat.mul_le_mul h24 hn
  have h' : ((i.bytes * n : Nat) : Int) ≤ 281474976710656 := by omega
  rwa [Int.natCast_mul] at h'
 have hr := run_makeSlice (P := Tryz.prog) w t e i z ht hi hz .i64 .i64 n n (by omega) (Int.le_refl _) (by rw [h1]; simp only [Int.toNat_natCast]; omega) hb (by omega)
 simp only [Int.toNat_natCast, h1, Nat.mul_one] at hr
 exact hr
def begE (m : Int) (l : List TxA) (s : List Int) : Int := firstNZ [planE m l, lenE s]
variable (la : Option Addr) (lc : Nat) (l : List TxA) (sa : Option Addr) (sc : Nat) (s : List Int)
set_option maxHeartbeats 2000000 in
theorem beg1_pan (m : Int) (p q : Nat) (w : World) (p0 : w.cell? ⟨p, 0, none⟩ = some (.int .i64 m)) (p1 : w.cell? ⟨p, 1, none⟩ = some (.slice la l.length lc)) (q0 : w.cell? ⟨q, 0, none⟩ = some (.slice sa s.length sc)) (hl : IsTxs w la l) (he : ¬ begE m l s = 0) :
  Calls Tryz.prog 36 #[.pointer (some ⟨p, 0, none⟩), .pointer (some ⟨q, 0, none⟩)] w fun e w' => e = .panicked [{ v := .iface 30 (.int .i64 (begE m l s)), recovered := false }] ∧ Below w.heap.size w w' := by
 have HE : Hid (¬ firstNZ [planE m l, lenE s] = 0) := he
 have hW : Hid (Below w.heap.size w (w.alloc (.cells #[.slice none 0 0, .slice none 0 0, .slice none 0 0, .slice none 0 0] 29))) := grow_alloc (Below.refl _ _) _
 have y0 := ext_cell hW.out p0
 have y1 := ext_cell hW.out p1
 have z0 := ext_cell hW.out q0
 have HLW : Hid (IsTxs (w.alloc (.cells #[.slice none 0 0, .slice none 0 0, .slice none 0 0, .slice none 0 0] 29)) la l) := hl.below hW.out
 unfold begE
 clear hl he p0 p1 q0
 go_enter Tryz.func36, Tryz.ntmps36
 go_upto_region 1 with fail
 generalize (w.alloc (.cells #[.slice none 0 0, .slice none 0 0, .slice none 0 0, .slice none 0 0] 29)) = W at *
 have KS : Hid (∀ w', Below W.heap.size W w' → Below W.heap.size W w' ∧ w'.cell? ⟨p, 0, none⟩ = some (.int .i64 m) ∧ w'.cell? ⟨p, 1, none⟩ = some (.slice la l.length lc) ∧ w'.cell? ⟨q, 0, none⟩ = some (.slice sa s.length sc)) := fun w' hb => ⟨hb, ext_cell hb y0, ext_cell hb y1, ext_cell hb z0⟩
 go_region_held (fun w' => Below W.heap.size W w' ∧ w'.cell? ⟨p, 0, none⟩ = some (.int .i64 m) ∧ w'.cell? ⟨p, 1, none⟩ = some (.slice la l.length lc) ∧ w'.cell? ⟨q, 0, none⟩ = some (.slice sa s.length sc)) ((refine KS.out _ ?_; go_split_ands; repeat (first | assumption | exact Below.refl _ _ | exact Hid.out (by assumption) | refine grow_drew ?_ | refine grow_alloc ?_ _ | refine grow_trans ?_ (by assumption))))
  (first
   | (go_at_call 37; refine (placeCheck_any la lc l m _ ?_).mono ?_; (refine HLW.out.below ?_; go_split_ands; repeat (first | assumption | exact Below.refl _ _ | exact Hid.out (by assumption) | refine grow_drew ?_ | refine grow_alloc ?_ _ | refine grow_trans ?_ (by assumption))); rintro e wx ⟨rfl, hbx⟩)
   | (go_at_call 30; refine (storeCheck_e s sa sc _).mono ?_; rintro e w' ⟨rfl, rfl⟩)
   | (go_at_call 13; refine (panic_or (leave_nz [planE m l, lenE s] _ 2 _ (by simp) HE.out ?_) (.tuple #[])).mono ?_; (exact errs2 _ _ _ _ (by simp)); rintro e w' (⟨rfl, rfl⟩ | ⟨hF, rfl, rfl⟩); (refine ⟨rfl, rfl, grow_trans hW.out ?_⟩; go_split_ands; repeat (first | assumption | exact Below.refl _ _ | exact Hid.out (by assumption) | refine grow_drew ?_ | refine grow_alloc ?_ _ | refine grow_trans ?_ (by assumption)))))
 exact (‹Hid False› : Hid False).out.elim
set_option maxHeartbeats 8000000 in
theorem beg1_ok (sh : Nat) (p q : Nat) (w : World) (p0 : w.cell? ⟨p, 0, none⟩ = some (.int .i64 (sh : Int))) (p1 : w.cell? ⟨p, 1, none⟩ = some (.slice la l.length lc)) (q0 : w.cell? ⟨q, 0, none⟩ = some (.slice sa s.length sc)) (hl : IsTxs w la l) (hs : IsInts w sa s) (he : begE sh l s = 0) :
  Calls Tryz.prog 36 #[.pointer (some ⟨p, 0, none⟩), .pointer (some ⟨q, 0, none⟩)] w fun e w' => ∃ q : Q4, e = .returned (.agg #[.slice q.sa q.sn q.sc, .slice q.ra q.rn q.rc, .slice q.wa q.wn q.tc, .slice q.va q.vn q.vc]) ∧ BegQ w.heap.size l sh (begX sh l s) q w' ∧ Below w.heap.size w w' := by
 obtain ⟨hp, h8⟩ : planE (sh : Int) l = 0 ∧ s.length = 8 := by
  have h := firstNZ_zero _ he
  have h0 : planE (sh : Int) l = 0 := h 0
  have h1 : lenE s = 0 := h 1
  refine ⟨h0, ?_⟩
  by_cases c : s.length = 8
  ·exact c
  ·have : lenE s = 1 := if_neg c
   omega
 have hz := planE_zero hp
 have hl8 := chkL_small hz.2.2
 have hs0 : 0 < sh := by omega
 have hs4 : sh ≤ 4 := by omega
 have hr4 : ∀ i, i < l.length → (gX l i).rs.length ≤ 4 := fun i hi => (many_small _ _ _ (chk_parts (chkL_in hz.2.2 i hi)).1).1
 have HR4 : Hid (∀ i, i < l.length → (gX l i).rs.length ≤ 4) := hr4
 have HE : Hid (firstNZ [planE (sh : Int) l, lenE s] = 0) := he
 have FORM : Hid (Form sh l (begX sh l s)) := (inv_beg sh l s h8 (fun n hn => good_of (chkL_in hz.2.2 n hn))).f
 obtain ⟨W, hWe⟩ : ∃ W : World, W = (w.alloc (.cells #[.slice none 0 0, .slice none 0 0, .slice none 0 0, .slice none 0 0] 29)) := ⟨_, rfl⟩
 have hW : Hid (Below w.heap.size w W) := by subst hWe; exact grow_alloc (Below.refl _ _) _
 have y0 := ext_cell hW.out p0
 have y1 := ext_cell hW.out p1
 have z0 := ext_cell hW.out q0
 have HLW : Hid (IsTxs W la l) := hl.below hW.out
 have HSW : Hid (IsInts W sa s) := hs.below hW.out
 have t0 : ∀ j, j < 4 → W.cell? ⟨w.heap.size, j, none⟩ = some (.slice none 0 0) := by
  subst hWe
  exact fun j hj => by
   match j, hj with
   | 0, _ => exact at_new _ _ 29 _ 0 _ rfl rfl
   | 1, _ => exact at_new _ _ 29 _ 1 _ rfl rfl
   | 2, _ => exact at_new _ _ 29 _ 2 _ rfl rfl
   | 3, _ => exact at_new _ _ 29 _ 3 _ rfl rfl
 have T0 : Hid (∀ j, j < 4 → W.cell? ⟨w.heap.size, j, none⟩ = some (.slice none 0 0)) := t0
 have TF : Hid (∀ j, W.frozen? ⟨w.heap.size, j, none⟩ = false) := by subst hWe; exact fun j => frozen_new _ _ 29 _ j rfl
 have sz : Hid (W.heap.size = w.heap.size + 1) := by subst hWe; show _ = _; simp
 have H8 : Hid (s.length = 8) := h8
 obtain ⟨i4, hi4, hz4, hs4', hb4'⟩ := info_parts Tryz.info4
 obtain ⟨i3, hi3, hz3, hs3, hb3'⟩ := info_parts Tryz.info3
 obtain ⟨i65, hi65, hz65, hs65, hb65⟩ := info_parts Tryz.info80
 obtain ⟨i25, hi25, hz25, hs25, hb25⟩ := info_parts Tryz.info25
 have hb4 : i4.bytes ≤ 24 := by omega
 have hb3 : i3.bytes ≤ 24 := by omega
 have hm1 : sh ≤ 8 := by omega
 obtain ⟨MK4, hMK4⟩ : ∃ c, c = madeCells (Value.bool false).cells sh := ⟨_, rfl⟩
 have hmk4 : ∀ w, (Instr.makeSlice 80 (.int .i64 (sh : Int)) (.int .i64 (sh : Int))).run Tryz.prog w = .ok (.slice (some ⟨w.heap.size, 0, none⟩) sh sh) (w.alloc (.cells MK4 4)) := fun w => by rw [hMK4]; exact run_mk w 80 4 i4 _ Tryz.underlying80 hi4 hz4 hs4' hb4 sh hm1
 have HMK4 : Hid (MK4 = madeCells (Value.bool false).cells sh) := hMK4
 clear hl he p0 p1 q0 hs hz hp t0 hr4 h8 hMK4
 have HWe : Hid (W = _) := hWe
 clear hWe
 go_enter Tryz.func36, Tryz.ntmps36
 go_upto_region 1 with fail
 rw [← HWe.out]
 clear HWe
 have KS : Hid (∀ w', Below W.heap.size W w' → Below W.heap.size W w' ∧ w'.cell? ⟨p, 0, none⟩ = some (.int .i64 (sh : Int)) ∧ w'.cell? ⟨p, 1, none⟩ = some (.slice la l.length lc) ∧ w'.cell? ⟨q, 0, none⟩ = some (.slice sa s.length sc)) := fun w' hb => ⟨hb, ext_cell hb y0, ext_cell hb y1, ext_cell hb z0⟩
 go_region_held3 (fun w' => Below W.heap.size W w' ∧ w'.cell? ⟨p, 0, none⟩ = some (.int .i64 (sh : Int)) ∧ w'.cell? ⟨p, 1, none⟩ = some (.slice la l.length lc) ∧ w'.cell? ⟨q, 0, none⟩ = some (.slice sa s.length sc)) ((refine KS.out _ ?_; go_split_ands; repeat (first | assumption | exact Below.refl _ _ | exact Hid.out (by assumption) | refine grow_drew ?_ | refine grow_alloc ?_ _ | refine grow_trans ?_ (by assumption))))
  (first
   | (go_at_call 37; refine (placeCheck_any la lc l (sh : Int) _ ?_).mono ?_; (refine HLW.out.below ?_; go_split_ands; repeat (first | assumption | exact Below.refl _ _ | exact Hid.out (by assumption) | refine grow_drew ?_ | refine grow_alloc ?_ _ | refine grow_trans ?_ (by assumption))); rintro e wx ⟨rfl, hbx⟩)
   | (go_at_call 30; refine (storeCheck_e s sa sc _).mono ?_; rintro e w' ⟨rfl, rfl⟩)
   | (go_at_call 13; refine (leave_zero [planE (sh : Int) l, lenE s] _ 2 _ (by simp) HE.out ?_).mono ?_; (exact errs2 _ _ _ _ (by simp)); rintro e w1 ⟨rfl, rfl⟩))
 have BW : Hid (Below W.heap.size W (w'.alloc (.cells #[.int .i64 (planE (sh : Int) l), .int .i64 (lenE s)] 30))) := grow_alloc (grow_trans (grow_drew (Below.refl _ _)) hbx) _
 go_split_ands
 generalize w'.alloc (.cells #[.int .i64 (planE (sh : Int) l), .int .i64 (lenE s)] 30) = w1 at *
 have q0 := ext_cell BW.out z0
 have CL : Hid (Calls Tryz.prog 38 #[.slice sa s.length sc] w1 fun e w'' => ∃ a' c' g, e = .returned (.slice a' 8 c') ∧ NewRow w1.heap.size w'' a' c' g 8 (fun k => .int .i64 (s.getD k 0)) ∧ Below w1.heap.size w1 w'') := by
  have h := cloneI_new 8 (fun k => .int .i64 (s.getD k 0)) (fun k _ => ⟨_, rfl⟩) sa sc w1 (by decide) (fun k hk => by
   obtain ⟨b, off, e, q1, q2⟩ := (HSW.out.below BW.out) k (by rw [H8.out]; exact hk)
   exact ⟨b, off, e, q1, q2⟩)
  rw [H8.out]
  exact h
 have Y1 : Hid (W.cell? ⟨p, 1, none⟩ = some (.slice la l.length lc)) := y1
 have Y0 : Hid (W.cell? ⟨p, 0, none⟩ = some (.int .i64 (sh : Int))) := y0
 clear y0 y1 z0 KS hbx
 go_wp2_with fail
 refine CL.out.mono ?_
 rintro e w2 ⟨a', c', g0, rfl, hn0, hb2⟩
 clear CL q0
 have B2 : Hid (Below W.heap.size W w2) := grow_trans BW.out hb2
 have R0 : Hid (NewRow w1.heap.size w2 a' c' g0 8 (fun k => .int .i64 (s.getD k 0))) := hn0
 have hWw : Hid (w.heap.size + 1 ≤ w1.heap.size ∧ w.heap.size < w2.heap.size ∧ g0 < w2.heap.size) := by
  have e1 := BW.out.size
  have e2 := hb2.size
  have e3 := sz.out
  exact ⟨by omega, by omega, (hn0.e (by decide)).2.2.1⟩
 have bU : Below w2.heap.size w2 (w2.alloc (.cells #[.slice a' 8 c', .slice none 0 0, .slice none 0 0, .slice none 0 0] 29)) := grow_alloc (Below.refl _ _) _
 have BG0 : Hid (Beg w2 (w2.alloc (.cells #[.slice a' 8 c', .slice none 0 0, .slice none 0 0, .slice none 0 0] 29)) w2.heap.size (.slice a' 8 c') (.slice none 0 0) (.slice none 0 0) (.slice none 0 0) 0 0 0 sh l [] [] [] (fun _ => 0) (fun _ => 0) (fun _ => 0)) :=
  ⟨at_new _ _ 29 _ 0 _ rfl rfl, at_new _ _ 29 _ 1 _ rfl rfl, at_new _ _ 29 _ 2 _ rfl rfl, at_new _ _ 29 _ 3 _ rfl rfl, fun j => frozen_new _ _ 29 _ j rfl, CR.nil _ _ _ _ _ _, CR.nil _ _ _ _ _ _, CR.nil _ _ _ _ _ _, (fun b h _ => h.elim (fun h => by cases h) (fun ⟨i, hi, _⟩ => absurd hi (Nat.not_lt_zero _))), (fun b h _ => h.elim (fun h => by cases h) (fun ⟨i, hi, _⟩ => absurd hi (Nat.not_lt_zero _))), (fun b h _ => h.elim (fun h => by cases h) (fun ⟨i, hi, _⟩ => absurd hi (Nat.not_lt_zero _))), bU, Nat.le_refl _, by simp⟩
 clear bU hn0 hb2 BW
 go_upto_region 3 with fail
 generalize (w2.alloc (.cells #[.slice a' 8 c', .slice none 0 0, .slice none 0 0, .slice none 0 0] 29)) = W3 at *
 have y1 := ext_cell (grow_trans B2.out BG0.out.bl) Y1.out
 go_upto_region 4 with fail
 clear y1
 go_loopw [5, 18] (fun _ i wr => ∃ (k : Nat) (v1 v2 v3 : Value) (L1 L2 L3 : List (Option Addr × Nat × Nat)) (B1 B2 B3 : Nat → Nat), k ≤ l.length ∧ i = .int .i64 k ∧ Hid (Beg w2 wr w2.heap.size (.slice a' 8 c') v1 v2 v3 k k k sh l L1 L2 L3 B1 B2 B3)) (fun _ i _ => l.length - (intOf i).toNat)
 case atStart => exact ⟨0, _, _, _, _, _, _, _, _, _, Nat.zero_le _, rfl, BG0⟩
 case round =>
  obtain ⟨k, v1, v2, v3, L1, L2, L3, B1, B2', B3, hk, rfl, hB⟩ := hrel
  clear BG0
  by_cases hlt : k < l.length
  ·obtain ⟨b, off, ea, _, t0, t1, t2, hx⟩ := (HLW.out.below B2.out) k hlt
   subst ea
   have d0 := ext_cell hB.out.bl t0
   have d1 := ext_cell hB.out.bl t1
   have d2 := ext_cell hB.out.bl t2
   have i1 : (k : Int) < (l.length : Int) := by omega
   have i0 : (0 : Int) ≤ (k : Int) := by omega
   have hr4 := HR4.out k hlt
   clear t0 t1 t2 hx
   generalize hgx : l.getD k x0 = x at d0 d1 d2
   have HXE : Hid (gX l k = x) := hgx
   rw [show gX l k = x from hgx] at hr4
   clear hgx
   obtain ⟨MK3, hMK3⟩ : ∃ c, c = madeCells (Value.int .i64 0).cells x.rs.length := ⟨_, rfl⟩
   have hmk3 : ∀ w, (Instr.makeSlice 25 (.int .i64 (x.rs.length : Int)) (.int .i64 (x.rs.length : Int))).run Tryz.prog w = .ok (.slice (some ⟨w.heap.size, 0, none⟩) x.rs.length x.rs.length) (w.alloc (.cells MK3 3)) := fun w => by rw [hMK3]; exact run_mk w 25 3 i3 _ Tryz.underlying25 hi3 hz3 hs3 hb3 _ (by omega)
   have HMK3 : Hid (MK3 = madeCells (Value.int .i64 0).cells x.rs.length) := hMK3
   clear hMK3
   go_upto_region 6 with fail
   have bX : Below wr.heap.size wr (wr.alloc (.cells #[.slice x.ra x.rs.length x.rc, .slice x.ga x.gs.length x.gc, .slice x.sa x.ss.length x.sc] 61)) := grow_alloc (Below.refl _ _) _
   have HB1 : Hid (Beg w2 (wr.alloc (.cells #[.slice x.ra x.rs.length x.rc, .slice x.ga x.gs.length x.gc, .slice x.sa x.ss.length x.sc] 61)) w2.heap.size (.slice a' 8 c') v1 v2 v3 k k k sh l L1 L2 L3 B1 B2' B3) := hB.out.below bX
   have fX : Hid (w2.heap.size ≠ wr.heap.size ∧ (∀ j, v1.ownBlock = some j ∨ v2.ownBlock = some j ∨ v3.ownBlock = some j → j ≠ wr.heap.size)) := ⟨by have := hB.out.hs; omega, fun j h => by
    rcases h with h | h | h
    ·have := (hB.out.r1.o.lt _ h).2; omega
    ·have := (hB.out.r2.o.lt _ h).2; omega
    ·have := (hB.out.r3.o.lt _ h).2; omega⟩
   have xc : (wr.alloc (.cells #[.slice x.ra x.rs.length x.rc, .slice x.ga x.gs.length x.gc, .slice x.sa x.ss.length x.sc] 61)).cell? ⟨wr.heap.size, 0, none⟩ = some (.slice x.ra x.rs.length x.rc) := at_new wr _ 61 _ 0 _ rfl rfl
   clear bX hB d0 d1 d2
   generalize (wr.alloc (.cells #[.slice x.ra x.rs.length x.rc, .slice x.ga x.gs.length x.gc, .slice x.sa x.ss.length x.sc] 61)) = V at *
   generalize wr.heap.size = X at *
   have P0 : Hid (∀ w', Below w2.heap.size w2 w' → w'.cell? ⟨p, 0, none⟩ = some (.int .i64 (sh : Int))) := fun w' hb => ext_cell (grow_trans B2.out hb) Y0.out
   have e0 := P0.out V HB1.out.bl
   have hbN : Below V.heap.size V (((V.drew).alloc (.cells MK4 4)).alloc (.cells #[.slice (some ⟨V.heap.size, 0, none⟩) sh sh] 80)) := grow_alloc (grow_alloc (grow_drew (Below.refl _ _)) _) _
   have HBN : Hid (Below V.heap.size V (((V.drew).alloc (.cells MK4 4)).alloc (.cells #[.slice (some ⟨V.heap.size, 0, none⟩) sh sh] 80))) := hbN
   have HN : Hid (Beg w2 (((V.drew).alloc (.cells MK4 4)).alloc (.cells #[.slice (some ⟨V.heap.size, 0, none⟩) sh sh] 80)) w2.heap.size (.slice a' 8 c') v1 v2 v3 k k k sh l L1 L2 L3 B1 B2' B3) := HB1.out.below hbN
   have c1 := HB1.out.c1
   have od1 : ∀ o, (V.alloc o).cell? ⟨w2.heap.size, 1, none⟩ = some v1 := fun o => ext_cell (grow_alloc (Below.refl _ _) o) c1
   have od2 : ∀ o o', ((V.alloc o).alloc o').cell? ⟨w2.heap.size, 1, none⟩ = some v1 := fun o o' => ext_cell (grow_alloc (grow_alloc (Below.refl _ _) o) o') c1
   have hsm : Hid (L1.length ≤ 100) := by show _ ≤ _; have e := HB1.out.r1.n; omega
   clear hbN
   go_cut [] (fun wx => ∃ (v1' : Value) (L1' : List (Option Addr × Nat × Nat)) (B1' : Nat → Nat), Hid (Beg w2 wx w2.heap.size (.slice a' 8 c') v1' v2 v3 (k + 1) k k sh l L1' L2 L3 B1' B2' B3) ∧ wx.cell? ⟨X, 0, none⟩ = some (.slice x.ra x.rs.length x.rc))
   case first =>
    go_region_law (first
      | (refine step_append_sl (by rfl) _ _ 26 80 (by rfl) i65 _ Tryz.underlying26 hi65 hz65 hs65 hb65 rfl (w2.heap.size + 1) v1 L1.length _ (by rfl) HN.out.r1.o ⟨_, 0, none⟩ 1 (.slice (some ⟨V.heap.size, 0, none⟩) sh sh) (by rfl) (at_new _ _ 80 _ 0 _ (by simp) rfl) rfl hsm.out HN.out.hs ?_; intro v' w5 ho3 hg3 hv3; obtain ⟨g', cap', rfl, _, _⟩ := ho3.form (by simp); have oc : w5.cell? ⟨w2.heap.size, 1, none⟩ = some v1 := hg3.cell HN.out.c1 (fun e => by have := (HN.out.r1.o.lt w2.heap.size e.symm).1; omega); have of3 : w5.frozen? ⟨w2.heap.size, 1, none⟩ = false := (World.frozen?_of_block (a := ⟨w2.heap.size, 1, none⟩) (hg3.block w2.heap.size HN.out.hs (fun e => by have := (HN.out.r1.o.lt w2.heap.size e.symm).1; omega))).trans (HN.out.fz 1)))
    all_goals (
     go_wp2_with fail
     go_meet
     obtain ⟨B', PB⟩ := Beg.push1 HB1.out HBN.out ho3 hg3 hv3 (by rw [HMK4.out]; exact made_new rfl)
     exact ⟨_, _, B', PB, by rw [World.cell?_setCell_far _ _ _ _ (by simpa using fX.out.1)]; exact hg3.cell (ext_cell HBN.out xc) (fun e => fX.out.2 X (.inl e.symm) rfl)⟩)
   case rest =>
    obtain ⟨v1', L1', B1', HB2, xc⟩ := hcut
    obtain ⟨V2, hren⟩ : ∃ V2 : World, V2 = wc := ⟨_, rfl⟩
    subst hren
    clear c1 od1 od2 hsm HN HBN HB1 e0
    have e0 := P0.out V2 HB2.out.bl
    have hbN : Below V2.heap.size V2 (((V2.drew).alloc (.cells MK4 4)).alloc (.cells #[.slice (some ⟨V2.heap.size, 0, none⟩) sh sh] 80)) := grow_alloc (grow_alloc (grow_drew (Below.refl _ _)) _) _
    have HBN : Hid (Below V2.heap.size V2 (((V2.drew).alloc (.cells MK4 4)).alloc (.cells #[.slice (some ⟨V2.heap.size, 0, none⟩) sh sh] 80))) := hbN
    have HN : Hid (Beg w2 (((V2.drew).alloc (.cells MK4 4)).alloc (.cells #[.slice (some ⟨V2.heap.size, 0, none⟩) sh sh] 80)) w2.heap.size (.slice a' 8 c') v1' v2 v3 (k + 1) k k sh l L1' L2 L3 B1' B2' B3) := HB2.out.below hbN
    have c2 := HB2.out.c2
    have od1 : ∀ o, (V2.alloc o).cell? ⟨w2.heap.size, 2, none⟩ = some v2 := fun o => ext_cell (grow_alloc (Below.refl _ _) o) c2
    have od2 : ∀ o o', ((V2.alloc o).alloc o').cell? ⟨w2.heap.size, 2, none⟩ = some v2 := fun o o' => ext_cell (grow_alloc (grow_alloc (Below.refl _ _) o) o') c2
    have hsm : Hid (L2.length ≤ 100) := by show _ ≤ _; have e := HB2.out.r2.n; omega
    clear hbN
    go_upto_region 7 with fail
    go_cut [] (fun wx => ∃ (v2' : Value) (L2' : List (Option Addr × Nat × Nat)) (B2'' : Nat → Nat), Hid (Beg w2 wx w2.heap.size (.slice a' 8 c') v1' v2' v3 (k + 1) (k + 1) k sh l L1' L2' L3 B1' B2'' B3) ∧ wx.cell? ⟨X, 0, none⟩ = some (.slice x.ra x.rs.length x.rc))
    case first =>
     go_region_law (first
      | (refine step_append_sl (by rfl) _ _ 26 80 (by rfl) i65 _ Tryz.underlying26 hi65 hz65 hs65 hb65 rfl (w2.heap.size + 1) v2 L2.length _ (by rfl) HN.out.r2.o ⟨_, 0, none⟩ 1 (.slice (some ⟨V2.heap.size, 0, none⟩) sh sh) (by rfl) (at_new _ _ 80 _ 0 _ (by simp) rfl) rfl hsm.out HN.out.hs ?_; intro v' w5 ho3 hg3 hv3; obtain ⟨g', cap', rfl, _, _⟩ := ho3.form (by simp); have oc : w5.cell? ⟨w2.heap.size, 2, none⟩ = some v2 := hg3.cell HN.out.c2 (fun e => by have := (HN.out.r2.o.lt w2.heap.size e.symm).1; omega); have of3 : w5.frozen? ⟨w2.heap.size, 2, none⟩ = false := (World.frozen?_of_block (a := ⟨w2.heap.size, 2, none⟩) (hg3.block w2.heap.size HN.out.hs (fun e => by have := (HN.out.r2.o.lt w2.heap.size e.symm).1; omega))).trans (HN.out.fz 2)))
     all_goals (
      go_wp2_with fail
      go_meet
      obtain ⟨B', PB⟩ := Beg.push2 HB2.out HBN.out ho3 hg3 hv3 (by rw [HMK4.out]; exact made_new rfl)
      exact ⟨_, _, B', PB, by rw [World.cell?_setCell_far _ _ _ _ (by simpa using fX.out.1)]; exact hg3.cell (ext_cell HBN.out xc) (fun e => fX.out.2 X (.inr (.inl e.symm)) rfl)⟩)
    case rest =>
     obtain ⟨v2', L2', B2'', HB3, xc⟩ := hcut
     obtain ⟨V3, hren⟩ : ∃ V3 : World, V3 = wc := ⟨_, rfl⟩
     subst hren
     clear c2 od1 od2 hsm HN HBN HB2 e0 P0
     have hbN : Below V3.heap.size V3 (((V3.drew).alloc (.cells MK3 3)).alloc (.cells #[.slice (some ⟨V3.heap.size, 0, none⟩) x.rs.length x.rs.length] 25)) := grow_alloc (grow_alloc (grow_drew (Below.refl _ _)) _) _
     have HBN : Hid (Below V3.heap.size V3 (((V3.drew).alloc (.cells MK3 3)).alloc (.cells #[.slice (some ⟨V3.heap.size, 0, none⟩) x.rs.length x.rs.length] 25))) := hbN
     have HN : Hid (Beg w2 (((V3.drew).alloc (.cells MK3 3)).alloc (.cells #[.slice (some ⟨V3.heap.size, 0, none⟩) x.rs.length x.rs.length] 25)) w2.heap.size (.slice a' 8 c') v1' v2' v3 (k + 1) (k + 1) k sh l L1' L2' L3 B1' B2'' B3) := HB3.out.below hbN
     have c3 := HB3.out.c3
     have od1 : ∀ o, (V3.alloc o).cell? ⟨w2.heap.size, 3, none⟩ = some v3 := fun o => ext_cell (grow_alloc (Below.refl _ _) o) c3
     have od2 : ∀ o o', ((V3.alloc o).alloc o').cell? ⟨w2.heap.size, 3, none⟩ = some v3 := fun o o' => ext_cell (grow_alloc (grow_alloc (Below.refl _ _) o) o') c3
     have hsm : Hid (L3.length ≤ 100) := by show _ ≤ _; have e := HB3.out.r3.n; omega
     clear hbN
     go_upto_region 8 with fail
     go_region_law (first
      | (refine step_append_sl (by rfl) _ _ 27 25 (by rfl) i25 _ Tryz.underlying27 hi25 hz25 hs25 hb25 rfl (w2.heap.size + 1) v3 L3.length _ (by rfl) HN.out.r3.o ⟨_, 0, none⟩ 1 (.slice (some ⟨V3.heap.size, 0, none⟩) x.rs.length x.rs.length) (by rfl) (at_new _ _ 25 _ 0 _ (by simp) rfl) rfl hsm.out HN.out.hs ?_; intro v' w5 ho3 hg3 hv3; obtain ⟨g', cap', rfl, _, _⟩ := ho3.form (by simp); have oc : w5.cell? ⟨w2.heap.size, 3, none⟩ = some v3 := hg3.cell HN.out.c3 (fun e => by have := (HN.out.r3.o.lt w2.heap.size e.symm).1; omega); have of3 : w5.frozen? ⟨w2.heap.size, 3, none⟩ = false := (World.frozen?_of_block (a := ⟨w2.heap.size, 3, none⟩) (hg3.block w2.heap.size HN.out.hs (fun e => by have := (HN.out.r3.o.lt w2.heap.size e.symm).1; omega))).trans (HN.out.fz 3)))
     all_goals (
      have HP : Hid (∃ B3', Beg w2 (w5.setCell ⟨w2.heap.size, 3, none⟩ (.slice (some ⟨g', 0, none⟩) (L3.length + 1) cap')) w2.heap.size (.slice a' 8 c') v1' v2' (.slice (some ⟨g', 0, none⟩) (L3.length + 1) cap') (k + 1) (k + 1) (k + 1) sh l L1' L2' (L3 ++ [(some ⟨V3.heap.size, 0, none⟩, (gX l k).rs.length, x.rs.length)]) B1' B2'' B3') := Beg.push3 (g := V3.heap.size) HB3.out HBN.out (by rw [HXE.out]; exact ho3) hg3 hv3 (by rw [HXE.out, HMK3.out]; exact made_new rfl)
      clear c3 od1 od2 hsm HN HBN HB3 xc ho3 hg3 hv3 oc of3
      generalize (w5.setCell ⟨w2.heap.size, 3, none⟩ (.slice (some ⟨g', 0, none⟩) (L3.length + 1) cap')) = WF at *
      go_wp2
      go_roundw
      case rel =>
       obtain ⟨B3', hp⟩ := HP.out
       exact ⟨k + 1, v1', v2', _, L1', L2', _, B1', B2'', B3', by omega, by go_num, hp⟩
      case measure => simp [intOf]; omega)
  ·have hkk : k = l.length := by omega
   subst hkk
   have i1 : ¬ (l.length : Int) < (l.length : Int) := by omega
   obtain ⟨a1, k1, g1, hv1, o1⟩ := hB.out.r1.fin
   obtain ⟨a2, k2, g2, hv2, o2⟩ := hB.out.r2.fin
   obtain ⟨a3, k3, g3, hv3, o3⟩ := hB.out.r3.fin
   subst hv1 hv2 hv3
   have z0 := hB.out.c0
   have z1 := hB.out.c1
   have z2 := hB.out.c2
   have z3 := hB.out.c3
   have bw : Below W.heap.size W wr := grow_trans B2.out hB.out.bl
   have v0 := ext_cell bw (T0.out 0 (by decide))
   have v1 := ext_cell bw (T0.out 1 (by decide))
   have v2 := ext_cell bw (T0.out 2 (by decide))
   have v3 := ext_cell bw (T0.out 3 (by decide))
   have vf : ∀ j, wr.frozen? ⟨w.heap.size, j, none⟩ = false := fun j => (bw.frozen (p := ⟨w.heap.size, j, none⟩) (by have := sz.out; show w.heap.size < _; omega)).trans (TF.out j)
   have RN : NewRow (w.heap.size + 1) wr a' c' g0 8 (fun k => .int .i64 (s.getD k 0)) := by
    have r := R0.out.below hB.out.bl
    have e1 := hWw.out
    have hh := sz.out
    exact ⟨fun hn => ⟨(r.e hn).1, by have := (r.e hn).2.1; omega, (r.e hn).2.2⟩, r.z, fun ad e => by have := r.lo ad e; omega⟩
   have FQ : Hid (BegQ (w.heap.size + 1) l sh (begX sh l s) ⟨a', a1, a2, a3, 8, l.length, l.length, l.length, c', k1, k2, k3⟩ wr) := by
    have hC : w.heap.size + 1 ≤ w2.heap.size + 1 := by have := hWw.out; omega
    exact ⟨rfl, rfl, rfl, rfl, FORM.out, g0, g1, g2, g3, B1, B2', B3, RN, (o1.mono hC (Nat.le_refl _)).congr (fun i k _ _ => by show Value.bool (at2 (l.map fun _ => List.replicate sh false) i k) = _; rw [at2_beg]), (o2.mono hC (Nat.le_refl _)).congr (fun i k _ _ => by show Value.bool (at2 (l.map fun _ => List.replicate sh false) i k) = _; rw [at2_beg]), (o3.mono hC (Nat.le_refl _)).congr (fun i k _ _ => by show Value.int .i64 (((l.map fun x => List.replicate x.rs.length (0 : Int)).getD i []).getD k 0) = _; rw [vs_beg])⟩
   have FF : Hid (BegQ (w.heap.size + 1) l sh (begX sh l s) ⟨a', a1, a2, a3, 8, l.length, l.length, l.length, c', k1, k2, k3⟩ ((((wr.setCell ⟨w.heap.size, 0, none⟩ (.slice a' 8 c')).setCell ⟨w.heap.size, 1, none⟩ (.slice a1 l.length k1)).setCell ⟨w.heap.size, 2, none⟩ (.slice a2 l.length k2)).setCell ⟨w.heap.size, 3, none⟩ (.slice a3 l.length k3)) ∧ Below w.heap.size w ((((wr.setCell ⟨w.heap.size, 0, none⟩ (.slice a' 8 c')).setCell ⟨w.heap.size, 1, none⟩ (.slice a1 l.length k1)).setCell ⟨w.heap.size, 2, none⟩ (.slice a2 l.length k2)).setCell ⟨w.heap.size, 3, none⟩ (.slice a3 l.length k3))) := ⟨(((FQ.out.set _ 0 _ (Nat.lt_succ_self _)).set _ 1 _ (Nat.lt_succ_self _)).set _ 2 _ (Nat.lt_succ_self _)).set _ 3 _ (Nat.lt_succ_self _), grow_set (grow_set (grow_set (grow_set (grow_trans hW.out bw) (Nat.le_refl _) _) (Nat.le_refl _) _) (Nat.le_refl _) _) (Nat.le_refl _) _⟩
   clear FQ RN o1 o2 o3 hB bw
   go_wp2_with fail
   have x0 : ((((wr.setCell ⟨w.heap.size, 0, none⟩ (.slice a' 8 c')).setCell ⟨w.heap.size, 1, none⟩ (.slice a1 l.length k1)).setCell ⟨w.heap.size, 2, none⟩ (.slice a2 l.length k2)).setCell ⟨w.heap.size, 3, none⟩ (.slice a3 l.length k3)).cell? ⟨w.heap.size, 0, none⟩ = some (.slice a' 8 c') := (set_off (by decide) (set_off (by decide) (set_off (by decide) (set_here v0))))
   have x1 : ((((wr.setCell ⟨w.heap.size, 0, none⟩ (.slice a' 8 c')).setCell ⟨w.heap.size, 1, none⟩ (.slice a1 l.length k1)).setCell ⟨w.heap.size, 2, none⟩ (.slice a2 l.length k2)).setCell ⟨w.heap.size, 3, none⟩ (.slice a3 l.length k3)).cell? ⟨w.heap.size, 1, none⟩ = some (.slice a1 l.length k1) := (set_off (by decide) (set_off (by decide) (set_here (set_off (by decide) v1))))
   have x2 : ((((wr.setCell ⟨w.heap.size, 0, none⟩ (.slice a' 8 c')).setCell ⟨w.heap.size, 1, none⟩ (.slice a1 l.length k1)).setCell ⟨w.heap.size, 2, none⟩ (.slice a2 l.length k2)).setCell ⟨w.heap.size, 3, none⟩ (.slice a3 l.length k3)).cell? ⟨w.heap.size, 2, none⟩ = some (.slice a2 l.length k2) := (set_off (by decide) (set_here (set_off (by decide) (set_off (by decide) v2))))
   have x3 : ((((wr.setCell ⟨w.heap.size, 0, none⟩ (.slice a' 8 c')).setCell ⟨w.heap.size, 1, none⟩ (.slice a1 l.length k1)).setCell ⟨w.heap.size, 2, none⟩ (.slice a2 l.length k2)).setCell ⟨w.heap.size, 3, none⟩ (.slice a3 l.length k3)).cell? ⟨w.heap.size, 3, none⟩ = some (.slice a3 l.length k3) := (set_here (set_off (by decide) (set_off (by decide) (set_off (by decide) v3))))
   generalize ((((wr.setCell ⟨w.heap.size, 0, none⟩ (.slice a' 8 c')).setCell ⟨w.heap.size, 1, none⟩ (.slice a1 l.length k1)).setCell ⟨w.heap.size, 2, none⟩ (.slice a2 l.length k2)).setCell ⟨w.heap.size, 3, none⟩ (.slice a3 l.length k3)) = W7 at *
   refine bodyPost_ret (v := .agg #[.slice a' 8 c', .slice a1 l.length k1, .slice a2 l.length k2, .slice a3 l.length k3]) (by simp [results, Tryz.results36, go_sem, x0, x1, x2, x3]) rfl ⟨⟨a', a1, a2, a3, 8, l.length, l.length, l.length, c', k1, k2, k3⟩, rfl, FF.out.1.low (Nat.le_succ _), FF.out.2⟩
end Go.Proofs.YtcgpkonfneofdaaGreat
