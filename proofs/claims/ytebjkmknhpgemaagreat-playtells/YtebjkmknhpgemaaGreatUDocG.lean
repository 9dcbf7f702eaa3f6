/-
  
  Conditions: those that each theorem states.
-/
import Derived.Test.YtebjkmknhpgemaaGreatUEithA
namespace Go.Proofs.YtebjkmknhpgemaaGreat
open Go.RowKit
theorem oH {w : World} {s : List Int} {ad : Addr} (hs : IsInts w (some ad) s) : ∀ j u, ((List.range s.length).map (fun k => Value.int .i64 (s.getD k 0)))[j]? = some u → w.cell? (ad.add j) = some u := by
 intro j u hj
 have hlt : j < s.length := by
  have := (List.getElem?_eq_some_iff.1 hj).1
  simpa using this
 obtain ⟨b, off, ha, hb, hc⟩ := hs j hlt
 injection ha with ha
 subst ha
 rw [bS, hc]
 rw [← hj]
 simp [hlt]
theorem pV (s : List Int) (n : Nat) : ∀ u ∈ (List.range n).map (fun k => Value.int .i64 (s.getD k 0)), u.oneCell' = true := by
 intro u hu
 obtain ⟨k, _, rfl⟩ := List.mem_map.1 hu
 rfl
variable (la : Option Addr) (lc : Nat) (l : List TxA) (sa : Option Addr) (sc : Nat) (s : List Int)
set_option maxRecDepth 100000 in
set_option maxHeartbeats 8000000 in
theorem docBegin_any (sh : Nat) (w : World) (hl : IsTxs w la l) (hs : IsInts w sa s) (hp : aP (sh : Int) l = 0) (h8 : s.length = 8) :
  Calls Tryz.prog 18 #[.agg #[.int .i64 (sh : Int), .slice la l.length lc], .slice sa s.length sc] w fun e w' => ∃ q : Q4, e = .returned (.agg #[.slice q.sa q.sn q.sc, .slice q.ra q.rn q.rc, .slice q.wa q.wn q.tc, .slice q.va q.vn q.vc]) ∧ StaF w.heap.size (gJ sh l s) q w' ∧ Below w.heap.size w w' := by
 have hz := aX hp
 have hl8 := dV hz.2.2
 have hs0 : 0 < sh := by omega
 have hs4 : sh ≤ 4 := by omega
 have hr4 : ∀ i, i < l.length → (gX l i).rs.length ≤ 4 := fun i hi => (bK _ _ _ (bZ (cI hz.2.2 i hi)).1).1
 have HR4 : Hid (∀ i, i < l.length → (gX l i).rs.length ≤ 4) := hr4
 have FORM : Hid (Form sh l (gJ sh l s)) := (rA sh l s h8 (fun n hn => hI (cI hz.2.2 n hn))).f
 obtain ⟨W, hWe⟩ : ∃ W : World, W = ((w.alloc (.cells #[.int .i64 (sh : Int), .slice la l.length lc] 24)).alloc (.cells #[.slice none 0 0, .slice none 0 0, .slice none 0 0, .slice none 0 0] 29)) := ⟨_, rfl⟩
 have hW : Hid (Below w.heap.size w W) := by subst hWe; exact aB (aB (Below.refl _ _) _) _
 have y0 : W.cell? ⟨w.heap.size, 0, none⟩ = some (.int .i64 (sh : Int)) := by subst hWe; exact aA (aB (Below.refl _ _) _) (aE w _ 24 _ 0 _ rfl rfl)
 have y1 : W.cell? ⟨w.heap.size, 1, none⟩ = some (.slice la l.length lc) := by subst hWe; exact aA (aB (Below.refl _ _) _) (aE w _ 24 _ 1 _ rfl rfl)
 have HLW : Hid (IsTxs W la l) := hl.below hW.out
 have HSW : Hid (IsInts W sa s) := hs.below hW.out
 have T0 : Hid (∀ j, j < 4 → W.cell? ⟨w.heap.size + 1, j, none⟩ = some (.slice none 0 0)) := by
  subst hWe
  exact fun j hj => by
   match j, hj with
   | 0, _ => exact aE _ _ 29 _ 0 _ (by simp) rfl
   | 1, _ => exact aE _ _ 29 _ 1 _ (by simp) rfl
   | 2, _ => exact aE _ _ 29 _ 2 _ (by simp) rfl
   | 3, _ => exact aE _ _ 29 _ 3 _ (by simp) rfl
 have TF : Hid (∀ j, W.frozen? ⟨w.heap.size + 1, j, none⟩ = false) := by subst hWe; exact fun j => aT _ _ 29 _ j (by simp)
 have sz : Hid (W.heap.size = w.heap.size + 2) := by subst hWe; show _ = _; simp
 have H8 : Hid (s.length = 8) := h8
 obtain ⟨i4, hi4, hz4, hs4', hb4'⟩ := info_parts Tryz.info4
 obtain ⟨i3, hi3, hz3, hs3, hb3'⟩ := info_parts Tryz.info3
 obtain ⟨i65, hi65, hz65, hs65, hb65⟩ := info_parts Tryz.info65
 obtain ⟨i25, hi25, hz25, hs25, hb25⟩ := info_parts Tryz.info25
 have hb4 : i4.bytes ≤ 24 := by omega
 have hb3 : i3.bytes ≤ 24 := by omega
 have hm1 : sh ≤ 8 := by omega
 obtain ⟨MK4, hMK4⟩ : ∃ c, c = madeCells (Value.bool false).cells sh := ⟨_, rfl⟩
 have hmk4 : ∀ w, (Instr.makeSlice 65 (.int .i64 (sh : Int)) (.int .i64 (sh : Int))).run Tryz.prog w = .ok (.slice (some ⟨w.heap.size, 0, none⟩) sh sh) (w.alloc (.cells MK4 4)) := fun w => by rw [hMK4]; exact qS w 65 4 i4 _ Tryz.underlying65 hi4 hz4 hs4' hb4 sh hm1
 have HMK4 : Hid (MK4 = madeCells (Value.bool false).cells sh) := hMK4
 obtain ⟨sb, so, esa, _, _⟩ := hs 0 (by omega)
 subst esa
 have hnews : Hid (∀ (o : Obj) j u, ((List.range s.length).map (fun k => Value.int .i64 (s.getD k 0)))[j]? = some u → (W.alloc o).cell? ((⟨sb, so, none⟩ : Addr).add j) = some u) := by subst hWe; exact fun o => oH ((hs.below hW.out).below (aB (Below.refl _ _) o))
 clear hl hs hz hp hr4 h8 hMK4
 have HWe : Hid (W = _) := hWe
 clear hWe
 go_enter Tryz.func18, Tryz.ntmps18
 go_upto_region 1 with fail
 rw [← HWe.out]
 clear HWe
 have Y1 : Hid (W.cell? ⟨w.heap.size, 1, none⟩ = some (.slice la l.length lc)) := y1
 have Y0 : Hid (W.cell? ⟨w.heap.size, 0, none⟩ = some (.int .i64 (sh : Int))) := y0
 clear y0 y1
 go_upto_region 2 with (first
   | (at_builtin; refine wpList_append_own _ rfl _ _ 25 rfl W.heap.size 3 i3 (.int .i64 0) 1 8 Tryz.underlying25 hi3 hz3 hs3 hb3' rfl (by decide) _ 0 [] rfl (World.ownsRow_lit W #[] 0 (Nat.le_refl _) (by decide) rfl) ⟨sb, so, none⟩ s.length sc ((List.range s.length).map (fun k => Value.int .i64 (s.getD k 0))) rfl (by simp) (hnews.out _) (pV s _) (by have := H8.out; unfold maxLen; omega) (by have := H8.out; omega) (by simp) ?_; intro v' w2 hown' hgrow _; rw [List.nil_append, Nat.zero_add] at hown'; obtain ⟨a', c', g0, rfl, hn0⟩ := lA hown')
   | go_in)
 rw [H8.out] at hn0 ⊢
 have hb2 : Below W.heap.size W w2 := (aB (Below.refl _ _) _).grown hgrow (by simp) (fun j hj => by cases hj; exact Nat.le_refl _)
 have B2 : Hid (Below W.heap.size W w2) := hb2
 have R0 : Hid (NewRow W.heap.size w2 a' c' g0 8 (fun k => .int .i64 (s.getD k 0))) := hn0
 have hWw : Hid (w.heap.size + 2 ≤ W.heap.size ∧ w.heap.size + 1 < w2.heap.size ∧ g0 < w2.heap.size) := by
  have e2 := hb2.size
  have e3 := sz.out
  exact ⟨by omega, by omega, (hn0.e (by decide)).2.2.1⟩
 have bU : Below w2.heap.size w2 (w2.alloc (.cells #[.slice a' 8 c', .slice none 0 0, .slice none 0 0, .slice none 0 0] 29)) := aB (Below.refl _ _) _
 have BG0 : Hid (Beg w2 (w2.alloc (.cells #[.slice a' 8 c', .slice none 0 0, .slice none 0 0, .slice none 0 0] 29)) w2.heap.size (.slice a' 8 c') (.slice none 0 0) (.slice none 0 0) (.slice none 0 0) 0 0 0 sh l [] [] [] (fun _ => 0) (fun _ => 0) (fun _ => 0)) :=
  ⟨aE _ _ 29 _ 0 _ rfl rfl, aE _ _ 29 _ 1 _ rfl rfl, aE _ _ 29 _ 2 _ rfl rfl, aE _ _ 29 _ 3 _ rfl rfl, fun j => aT _ _ 29 _ j rfl, CR.nil _ _ _ _ _ _, CR.nil _ _ _ _ _ _, CR.nil _ _ _ _ _ _, (fun b h _ => h.elim (fun h => by cases h) (fun ⟨i, hi, _⟩ => absurd hi (Nat.not_lt_zero _))), (fun b h _ => h.elim (fun h => by cases h) (fun ⟨i, hi, _⟩ => absurd hi (Nat.not_lt_zero _))), (fun b h _ => h.elim (fun h => by cases h) (fun ⟨i, hi, _⟩ => absurd hi (Nat.not_lt_zero _))), bU, Nat.le_refl _, by simp⟩
 clear bU hn0 hb2 hown' hgrow hnews
 go_upto_region 2 with fail
 generalize (w2.alloc (.cells #[.slice a' 8 c', .slice none 0 0, .slice none 0 0, .slice none 0 0] 29)) = W3 at *
 go_upto_region 3 with fail
 go_loopw [6] (fun i wr => ∃ (k : Nat) (v1 v2 v3 : Value) (L1 L2 L3 : List (Option Addr × Nat × Nat)) (B1 B2 B3 : Nat → Nat), k ≤ l.length ∧ i = .int .i64 k ∧ Hid (Beg w2 wr w2.heap.size (.slice a' 8 c') v1 v2 v3 k k k sh l L1 L2 L3 B1 B2 B3)) (fun i _ => l.length - (intOf i).toNat)
 case atStart => exact ⟨0, _, _, _, _, _, _, _, _, _, Nat.zero_le _, rfl, BG0⟩
 case round =>
  obtain ⟨k, v1, v2, v3, L1, L2, L3, B1, B2', B3, hk, rfl, hB⟩ := hrel
  clear BG0
  by_cases hlt : k < l.length
  ·obtain ⟨b, off, ea, _, t0, t1, t2, hx⟩ := (HLW.out.below B2.out) k hlt
   subst ea
   have d0 := aA hB.out.bl t0
   have i1 : (k : Int) < (l.length : Int) := by omega
   have i0 : (0 : Int) ≤ (k : Int) := by omega
   have hr4 := HR4.out k hlt
   have y1 := aA (aC B2.out hB.out.bl) Y1.out
   have hkl : k < l.length := hlt
   clear t1 t2 hx
   generalize hgx : l.getD k x0 = x at d0 t0
   have D0 : Hid (w2.cell? ⟨b, off + k * 3, none⟩ = some (.slice x.ra x.rs.length x.rc)) := t0
   clear t0
   have HXE : Hid (gX l k = x) := hgx
   rw [show gX l k = x from hgx] at hr4
   clear hgx
   obtain ⟨MK3, hMK3⟩ : ∃ c, c = madeCells (Value.int .i64 0).cells x.rs.length := ⟨_, rfl⟩
   have hmk3 : ∀ w, (Instr.makeSlice 25 (.int .i64 (x.rs.length : Int)) (.int .i64 (x.rs.length : Int))).run Tryz.prog w = .ok (.slice (some ⟨w.heap.size, 0, none⟩) x.rs.length x.rs.length) (w.alloc (.cells MK3 3)) := fun w => by rw [hMK3]; exact qS w 25 3 i3 _ Tryz.underlying25 hi3 hz3 hs3 hb3 _ (by omega)
   have HMK3 : Hid (MK3 = madeCells (Value.int .i64 0).cells x.rs.length) := hMK3
   clear hMK3
   go_upto_region 5 with fail
   clear d0 y1
   have HB1 := hB
   clear hB
   obtain ⟨V, hren⟩ : ∃ V : World, V = wr := ⟨_, rfl⟩
   subst hren
   have P0 : Hid (∀ w', Below w2.heap.size w2 w' → w'.cell? ⟨w.heap.size, 0, none⟩ = some (.int .i64 (sh : Int))) := fun w' hb => aA (aC B2.out hb) Y0.out
   have e0 := P0.out V HB1.out.bl
   have hbN : Below V.heap.size V (((V.drew).alloc (.cells MK4 4)).alloc (.cells #[.slice (some ⟨V.heap.size, 0, none⟩) sh sh] 65)) := aB (aB (aD (Below.refl _ _)) _) _
   have HBN : Hid (Below V.heap.size V (((V.drew).alloc (.cells MK4 4)).alloc (.cells #[.slice (some ⟨V.heap.size, 0, none⟩) sh sh] 65))) := hbN
   have HN : Hid (Beg w2 (((V.drew).alloc (.cells MK4 4)).alloc (.cells #[.slice (some ⟨V.heap.size, 0, none⟩) sh sh] 65)) w2.heap.size (.slice a' 8 c') v1 v2 v3 k k k sh l L1 L2 L3 B1 B2' B3) := HB1.out.below hbN
   have c1 := HB1.out.c1
   have od1 : ∀ o, (V.alloc o).cell? ⟨w2.heap.size, 1, none⟩ = some v1 := fun o => aA (aB (Below.refl _ _) o) c1
   have od2 : ∀ o o', ((V.alloc o).alloc o').cell? ⟨w2.heap.size, 1, none⟩ = some v1 := fun o o' => aA (aB (aB (Below.refl _ _) o) o') c1
   have hsm : Hid (L1.length ≤ 100) := by show _ ≤ _; have e := HB1.out.r1.n; omega
   clear hbN
   go_cut [] (fun wx => ∃ (v1' : Value) (L1' : List (Option Addr × Nat × Nat)) (B1' : Nat → Nat), Hid (Beg w2 wx w2.heap.size (.slice a' 8 c') v1' v2 v3 (k + 1) k k sh l L1' L2 L3 B1' B2' B3))
   case first =>
    go_region_law (first
      | (refine bG (by rfl) _ _ 26 65 (by rfl) i65 _ Tryz.underlying26 hi65 hz65 hs65 hb65 rfl (w2.heap.size + 1) v1 L1.length _ (by rfl) HN.out.r1.o ⟨_, 0, none⟩ 1 (.slice (some ⟨V.heap.size, 0, none⟩) sh sh) (by rfl) (aE _ _ 65 _ 0 _ (by simp) rfl) rfl hsm.out HN.out.hs ?_; intro v' w5 ho3 hg3 hv3; obtain ⟨g', cap', rfl, _, _⟩ := ho3.form (by simp); have oc : w5.cell? ⟨w2.heap.size, 1, none⟩ = some v1 := hg3.cell HN.out.c1 (fun e => by have := (HN.out.r1.o.lt w2.heap.size e.symm).1; omega); have of3 : w5.frozen? ⟨w2.heap.size, 1, none⟩ = false := (World.frozen?_of_block (a := ⟨w2.heap.size, 1, none⟩) (hg3.block w2.heap.size HN.out.hs (fun e => by have := (HN.out.r1.o.lt w2.heap.size e.symm).1; omega))).trans (HN.out.fz 1)))
    all_goals (
     go_wp2_with fail
     go_meet
     obtain ⟨B', PB⟩ := Beg.push1 HB1.out HBN.out ho3 hg3 hv3 (by rw [HMK4.out]; exact iG rfl)
     exact ⟨_, _, B', PB⟩)
   case rest =>
    obtain ⟨v1', L1', B1', HB2⟩ := hcut
    obtain ⟨V2, hren⟩ : ∃ V2 : World, V2 = wc := ⟨_, rfl⟩
    subst hren
    clear c1 od1 od2 hsm HN HBN HB1 e0
    have e0 := P0.out V2 HB2.out.bl
    have hbN : Below V2.heap.size V2 (((V2.drew).alloc (.cells MK4 4)).alloc (.cells #[.slice (some ⟨V2.heap.size, 0, none⟩) sh sh] 65)) := aB (aB (aD (Below.refl _ _)) _) _
    have HBN : Hid (Below V2.heap.size V2 (((V2.drew).alloc (.cells MK4 4)).alloc (.cells #[.slice (some ⟨V2.heap.size, 0, none⟩) sh sh] 65))) := hbN
    have HN : Hid (Beg w2 (((V2.drew).alloc (.cells MK4 4)).alloc (.cells #[.slice (some ⟨V2.heap.size, 0, none⟩) sh sh] 65)) w2.heap.size (.slice a' 8 c') v1' v2 v3 (k + 1) k k sh l L1' L2 L3 B1' B2' B3) := HB2.out.below hbN
    have c2 := HB2.out.c2
    have od1 : ∀ o, (V2.alloc o).cell? ⟨w2.heap.size, 2, none⟩ = some v2 := fun o => aA (aB (Below.refl _ _) o) c2
    have od2 : ∀ o o', ((V2.alloc o).alloc o').cell? ⟨w2.heap.size, 2, none⟩ = some v2 := fun o o' => aA (aB (aB (Below.refl _ _) o) o') c2
    have hsm : Hid (L2.length ≤ 100) := by show _ ≤ _; have e := HB2.out.r2.n; omega
    clear hbN
    go_upto_region 6 with fail
    go_cut [] (fun wx => ∃ (v2' : Value) (L2' : List (Option Addr × Nat × Nat)) (B2'' : Nat → Nat), Hid (Beg w2 wx w2.heap.size (.slice a' 8 c') v1' v2' v3 (k + 1) (k + 1) k sh l L1' L2' L3 B1' B2'' B3))
    case first =>
     go_region_law (first
      | (refine bG (by rfl) _ _ 26 65 (by rfl) i65 _ Tryz.underlying26 hi65 hz65 hs65 hb65 rfl (w2.heap.size + 1) v2 L2.length _ (by rfl) HN.out.r2.o ⟨_, 0, none⟩ 1 (.slice (some ⟨V2.heap.size, 0, none⟩) sh sh) (by rfl) (aE _ _ 65 _ 0 _ (by simp) rfl) rfl hsm.out HN.out.hs ?_; intro v' w5 ho3 hg3 hv3; obtain ⟨g', cap', rfl, _, _⟩ := ho3.form (by simp); have oc : w5.cell? ⟨w2.heap.size, 2, none⟩ = some v2 := hg3.cell HN.out.c2 (fun e => by have := (HN.out.r2.o.lt w2.heap.size e.symm).1; omega); have of3 : w5.frozen? ⟨w2.heap.size, 2, none⟩ = false := (World.frozen?_of_block (a := ⟨w2.heap.size, 2, none⟩) (hg3.block w2.heap.size HN.out.hs (fun e => by have := (HN.out.r2.o.lt w2.heap.size e.symm).1; omega))).trans (HN.out.fz 2)))
     all_goals (
      go_wp2_with fail
      go_meet
      obtain ⟨B', PB⟩ := Beg.push2 HB2.out HBN.out ho3 hg3 hv3 (by rw [HMK4.out]; exact iG rfl)
      exact ⟨_, _, B', PB⟩)
    case rest =>
     obtain ⟨v2', L2', B2'', HB3⟩ := hcut
     obtain ⟨V3, hren⟩ : ∃ V3 : World, V3 = wc := ⟨_, rfl⟩
     subst hren
     clear c2 od1 od2 hsm HN HBN HB2 e0 P0
     have hbN : Below V3.heap.size V3 (((V3.drew).alloc (.cells MK3 3)).alloc (.cells #[.slice (some ⟨V3.heap.size, 0, none⟩) x.rs.length x.rs.length] 25)) := aB (aB (aD (Below.refl _ _)) _) _
     have HBN : Hid (Below V3.heap.size V3 (((V3.drew).alloc (.cells MK3 3)).alloc (.cells #[.slice (some ⟨V3.heap.size, 0, none⟩) x.rs.length x.rs.length] 25))) := hbN
     have HN : Hid (Beg w2 (((V3.drew).alloc (.cells MK3 3)).alloc (.cells #[.slice (some ⟨V3.heap.size, 0, none⟩) x.rs.length x.rs.length] 25)) w2.heap.size (.slice a' 8 c') v1' v2' v3 (k + 1) (k + 1) k sh l L1' L2' L3 B1' B2'' B3) := HB3.out.below hbN
     have c3 := HB3.out.c3
     have od1 : ∀ o, (V3.alloc o).cell? ⟨w2.heap.size, 3, none⟩ = some v3 := fun o => aA (aB (Below.refl _ _) o) c3
     have od2 : ∀ o o', ((V3.alloc o).alloc o').cell? ⟨w2.heap.size, 3, none⟩ = some v3 := fun o o' => aA (aB (aB (Below.refl _ _) o) o') c3
     have hsm : Hid (L3.length ≤ 100) := by show _ ≤ _; have e := HB3.out.r3.n; omega
     clear hbN
     have e1 := aA (aC B2.out HB3.out.bl) Y1.out
     have e2 := aA HB3.out.bl D0.out
     have of1 : ∀ o, (V3.alloc o).cell? ⟨w.heap.size, 1, none⟩ = some (.slice (some ⟨b, off, none⟩) l.length lc) := fun o => aA (aB (Below.refl _ _) o) e1
     have of2 : ∀ o o', ((V3.alloc o).alloc o').cell? ⟨w.heap.size, 1, none⟩ = some (.slice (some ⟨b, off, none⟩) l.length lc) := fun o o' => aA (aB (aB (Below.refl _ _) o) o') e1
     have og1 : ∀ o, (V3.alloc o).cell? ⟨b, off + k * 3, none⟩ = some (.slice x.ra x.rs.length x.rc) := fun o => aA (aB (Below.refl _ _) o) e2
     have og2 : ∀ o o', ((V3.alloc o).alloc o').cell? ⟨b, off + k * 3, none⟩ = some (.slice x.ra x.rs.length x.rc) := fun o o' => aA (aB (aB (Below.refl _ _) o) o') e2
     go_upto_region 7 with fail
     go_region_law (first
      | (refine bG (by rfl) _ _ 27 25 (by rfl) i25 _ Tryz.underlying27 hi25 hz25 hs25 hb25 rfl (w2.heap.size + 1) v3 L3.length _ (by rfl) HN.out.r3.o ⟨_, 0, none⟩ 1 (.slice (some ⟨V3.heap.size, 0, none⟩) x.rs.length x.rs.length) (by rfl) (aE _ _ 25 _ 0 _ (by simp) rfl) rfl hsm.out HN.out.hs ?_; intro v' w5 ho3 hg3 hv3; obtain ⟨g', cap', rfl, _, _⟩ := ho3.form (by simp); have oc : w5.cell? ⟨w2.heap.size, 3, none⟩ = some v3 := hg3.cell HN.out.c3 (fun e => by have := (HN.out.r3.o.lt w2.heap.size e.symm).1; omega); have of3 : w5.frozen? ⟨w2.heap.size, 3, none⟩ = false := (World.frozen?_of_block (a := ⟨w2.heap.size, 3, none⟩) (hg3.block w2.heap.size HN.out.hs (fun e => by have := (HN.out.r3.o.lt w2.heap.size e.symm).1; omega))).trans (HN.out.fz 3)))
     all_goals (
      have HP : Hid (∃ B3', Beg w2 (w5.setCell ⟨w2.heap.size, 3, none⟩ (.slice (some ⟨g', 0, none⟩) (L3.length + 1) cap')) w2.heap.size (.slice a' 8 c') v1' v2' (.slice (some ⟨g', 0, none⟩) (L3.length + 1) cap') (k + 1) (k + 1) (k + 1) sh l L1' L2' (L3 ++ [(some ⟨V3.heap.size, 0, none⟩, (gX l k).rs.length, x.rs.length)]) B1' B2'' B3') := Beg.push3 (g := V3.heap.size) HB3.out HBN.out (by rw [HXE.out]; exact ho3) hg3 hv3 (by rw [HXE.out, HMK3.out]; exact iG rfl)
      clear c3 od1 od2 hsm HN HBN HB3 ho3 hg3 hv3 oc of3 e1 e2 of1 of2 og1 og2
      generalize (w5.setCell ⟨w2.heap.size, 3, none⟩ (.slice (some ⟨g', 0, none⟩) (L3.length + 1) cap')) = WF at *
      go_wp2
      go_roundw
      case rel =>
       obtain ⟨B3', hp⟩ := HP.out
       exact ⟨k + 1, v1', v2', _, L1', L2', _, B1', B2'', B3', by omega, by go_num, hp⟩
      case measure => simp [intOf]; omega)
  ·have hkk : k = l.length := by omega
   subst hkk
   have i1 : ¬ (l.length : Int) < (l.length : Int) := by omega
   obtain ⟨a1, k1, g1, hv1, o1⟩ := hB.out.r1.fin
   obtain ⟨a2, k2, g2, hv2, o2⟩ := hB.out.r2.fin
   obtain ⟨a3, k3, g3, hv3, o3⟩ := hB.out.r3.fin
   subst hv1 hv2 hv3
   have z0 := hB.out.c0
   have z1 := hB.out.c1
   have z2 := hB.out.c2
   have z3 := hB.out.c3
   have bw : Below W.heap.size W wr := aC B2.out hB.out.bl
   have yy := aA bw Y1.out
   have v0 := aA bw (T0.out 0 (by decide))
   have v1 := aA bw (T0.out 1 (by decide))
   have v2 := aA bw (T0.out 2 (by decide))
   have v3 := aA bw (T0.out 3 (by decide))
   have vf : ∀ j, wr.frozen? ⟨w.heap.size + 1, j, none⟩ = false := fun j => (bw.frozen (p := ⟨w.heap.size + 1, j, none⟩) (by have := sz.out; show w.heap.size + 1 < _; omega)).trans (TF.out j)
   have RN : NewRow (w.heap.size + 2) wr a' c' g0 8 (fun k => .int .i64 (s.getD k 0)) := by
    have r := R0.out.below hB.out.bl
    have e1 := hWw.out
    have hh := sz.out
    exact ⟨fun hn => ⟨(r.e hn).1, by have := (r.e hn).2.1; omega, (r.e hn).2.2⟩, r.z, fun ad e => by have := r.lo ad e; omega⟩
   have FQ : Hid (BegQ (w.heap.size + 2) l sh (gJ sh l s) ⟨a', a1, a2, a3, 8, l.length, l.length, l.length, c', k1, k2, k3⟩ wr) := by
    have hC : w.heap.size + 2 ≤ w2.heap.size + 1 := by have := hWw.out; omega
    exact ⟨rfl, rfl, rfl, rfl, FORM.out, g0, g1, g2, g3, B1, B2', B3, RN, (o1.mono hC (Nat.le_refl _)).congr (fun i k _ _ => by show Value.bool (bW (l.map fun _ => List.replicate sh false) i k) = _; rw [iB]), (o2.mono hC (Nat.le_refl _)).congr (fun i k _ _ => by show Value.bool (bW (l.map fun _ => List.replicate sh false) i k) = _; rw [iB]), (o3.mono hC (Nat.le_refl _)).congr (fun i k _ _ => by show Value.int .i64 (((l.map fun x => List.replicate x.rs.length (0 : Int)).getD i []).getD k 0) = _; rw [vs_beg])⟩
   have FF : Hid (BegQ (w.heap.size + 2) l sh (gJ sh l s) ⟨a', a1, a2, a3, 8, l.length, l.length, l.length, c', k1, k2, k3⟩ ((((wr.setCell ⟨w.heap.size + 1, 0, none⟩ (.slice a' 8 c')).setCell ⟨w.heap.size + 1, 1, none⟩ (.slice a1 l.length k1)).setCell ⟨w.heap.size + 1, 2, none⟩ (.slice a2 l.length k2)).setCell ⟨w.heap.size + 1, 3, none⟩ (.slice a3 l.length k3)) ∧ Below w.heap.size w ((((wr.setCell ⟨w.heap.size + 1, 0, none⟩ (.slice a' 8 c')).setCell ⟨w.heap.size + 1, 1, none⟩ (.slice a1 l.length k1)).setCell ⟨w.heap.size + 1, 2, none⟩ (.slice a2 l.length k2)).setCell ⟨w.heap.size + 1, 3, none⟩ (.slice a3 l.length k3))) := ⟨(((FQ.out.set _ 0 _ (Nat.lt_succ_self _)).set _ 1 _ (Nat.lt_succ_self _)).set _ 2 _ (Nat.lt_succ_self _)).set _ 3 _ (Nat.lt_succ_self _), aG (aG (aG (aG (aC hW.out bw) (Nat.le_succ _) _) (Nat.le_succ _) _) (Nat.le_succ _) _) (Nat.le_succ _) _⟩
   clear FQ RN o1 o2 o3 hB bw
   go_wp2_with fail
   have x0 : ((((wr.setCell ⟨w.heap.size + 1, 0, none⟩ (.slice a' 8 c')).setCell ⟨w.heap.size + 1, 1, none⟩ (.slice a1 l.length k1)).setCell ⟨w.heap.size + 1, 2, none⟩ (.slice a2 l.length k2)).setCell ⟨w.heap.size + 1, 3, none⟩ (.slice a3 l.length k3)).cell? ⟨w.heap.size + 1, 0, none⟩ = some (.slice a' 8 c') := (aH (by decide) (aH (by decide) (aH (by decide) (aK v0))))
   have x1 : ((((wr.setCell ⟨w.heap.size + 1, 0, none⟩ (.slice a' 8 c')).setCell ⟨w.heap.size + 1, 1, none⟩ (.slice a1 l.length k1)).setCell ⟨w.heap.size + 1, 2, none⟩ (.slice a2 l.length k2)).setCell ⟨w.heap.size + 1, 3, none⟩ (.slice a3 l.length k3)).cell? ⟨w.heap.size + 1, 1, none⟩ = some (.slice a1 l.length k1) := (aH (by decide) (aH (by decide) (aK (aH (by decide) v1))))
   have x2 : ((((wr.setCell ⟨w.heap.size + 1, 0, none⟩ (.slice a' 8 c')).setCell ⟨w.heap.size + 1, 1, none⟩ (.slice a1 l.length k1)).setCell ⟨w.heap.size + 1, 2, none⟩ (.slice a2 l.length k2)).setCell ⟨w.heap.size + 1, 3, none⟩ (.slice a3 l.length k3)).cell? ⟨w.heap.size + 1, 2, none⟩ = some (.slice a2 l.length k2) := (aH (by decide) (aK (aH (by decide) (aH (by decide) v2))))
   have x3 : ((((wr.setCell ⟨w.heap.size + 1, 0, none⟩ (.slice a' 8 c')).setCell ⟨w.heap.size + 1, 1, none⟩ (.slice a1 l.length k1)).setCell ⟨w.heap.size + 1, 2, none⟩ (.slice a2 l.length k2)).setCell ⟨w.heap.size + 1, 3, none⟩ (.slice a3 l.length k3)).cell? ⟨w.heap.size + 1, 3, none⟩ = some (.slice a3 l.length k3) := (aK (aH (by decide) (aH (by decide) (aH (by decide) v3))))
   generalize ((((wr.setCell ⟨w.heap.size + 1, 0, none⟩ (.slice a' 8 c')).setCell ⟨w.heap.size + 1, 1, none⟩ (.slice a1 l.length k1)).setCell ⟨w.heap.size + 1, 2, none⟩ (.slice a2 l.length k2)).setCell ⟨w.heap.size + 1, 3, none⟩ (.slice a3 l.length k3)) = W7 at *
   refine bodyPost_ret (v := .agg #[.slice a' 8 c', .slice a1 l.length k1, .slice a2 l.length k2, .slice a3 l.length k3]) (by simp [results, Tryz.results18, go_sem, x0, x1, x2, x3]) rfl ⟨⟨a', a1, a2, a3, 8, l.length, l.length, l.length, c', k1, k2, k3⟩, rfl, (FF.out.1.staF hs0).low (by omega), FF.out.2⟩
end Go.Proofs.YtebjkmknhpgemaaGreat
