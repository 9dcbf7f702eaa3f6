/-
  Begin, Check and Over tell just what the document tells, errors too, whatever they are handed (StepsChecks).
  Conditions: none beyond the form's own (the arguments can be read).
-/
import Derived.Test.YtebjkmknhpgemaaGreatMHall
import Derived.WalkKit
import Derived.WalkSpells
import Derived.WalkLawsBesides
import Derived.Defers
import Derived.Recover
import Derived.ProofKit
import Derived.Deep.RegionHeld
import Derived.Deep.RegionHeld3
import Derived.Deep.RegionLaw
import Derived.Deep.DeepCutAuto
import Derived.Deep.QuietTactic
import Derived.BigQuiet
import Derived.Maps.AppendAt
import Derived.Lib.SliceRun
import Derived.Deep.AppendLies
import Derived.Test.YtebjkmknhpgemaaGreatHallH
import Derived.Test.YtebjkmknhpgemaaGreatMPlace
import Derived.Test.YtebjkmknhpgemaaGreatHallA
import Derived.Test.YtebjkmknhpgemaaGreatHallB
import Derived.Test.YtebjkmknhpgemaaGreatTxnA
import Derived.Test.YtebjkmknhpgemaaGreatMRun
import Derived.OpenShut
import Derived.ChangeOld
import Derived.Deep.Slices
import Derived.Deep.Strs
import Derived.Lib.SmallJoins
namespace Go.Proofs.YtebjkmknhpgemaaGreat
open Go.RowKit

theorem news_range {w : World} {s : List Int} {ad : Addr} (hs : IsInts w (some ad) s) : ∀ j u, ((List.range s.length).map (fun k => Value.int .i64 (s.getD k 0)))[j]? = some u → w.cell? (ad.add j) = some u := by
  intro j u hj
  have hlt : j < s.length := by
    have := (List.getElem?_eq_some_iff.1 hj).1
    simpa using this
  obtain ⟨b, off, ha, hb, hc⟩ := hs j hlt
  injection ha with ha
  subst ha
  rw [add_none, hc]
  rw [← hj]
  simp [hlt]
theorem one_range (s : List Int) (n : Nat) : ∀ u ∈ (List.range n).map (fun k => Value.int .i64 (s.getD k 0)), u.oneCell' = true := by
  intro u hu
  obtain ⟨k, _, rfl⟩ := List.mem_map.1 hu
  rfl

variable (la : Option Addr) (lc : Nat) (l : List TxA) (sa : Option Addr) (sc : Nat) (s : List Int)

set_option maxRecDepth 100000 in
set_option maxHeartbeats 8000000 in
/-- The document's BeginOf. -/
theorem docBegin_any (sh : Nat) (w : World) (hl : IsTxs w la l) (hs : IsInts w sa s) (hp : planE (sh : Int) l = 0) (h8 : s.length = 8) :
    Calls Tryz.prog 18 #[.agg #[.int .i64 (sh : Int), .slice la l.length lc], .slice sa s.length sc] w fun e w' => ∃ q : Q4, e = .returned (.agg #[.slice q.sa q.sn q.sc, .slice q.ra q.rn q.rc, .slice q.wa q.wn q.tc, .slice q.va q.vn q.vc]) ∧ StaF w.heap.size (begX sh l s) q w' ∧ Below w.heap.size w w' := by
  have hz := planE_zero hp
  have hl8 := chkL_small hz.2.2
  have hs0 : 0 < sh := by omega
  have hs4 : sh ≤ 4 := by omega
  have hr4 : ∀ i, i < l.length → (gX l i).rs.length ≤ 4 := fun i hi => (many_small _ _ _ (chk_parts (chkL_in hz.2.2 i hi)).1).1
  have HR4 : Hid (∀ i, i < l.length → (gX l i).rs.length ≤ 4) := hr4
  have FORM : Hid (Form sh l (begX sh l s)) := (inv_beg sh l s h8 (fun n hn => good_of (chkL_in hz.2.2 n hn))).f
  have hW : Hid (Below w.heap.size w ((w.alloc (.cells #[.int .i64 (sh : Int), .slice la l.length lc] 24)).alloc (.cells #[.slice none 0 0, .slice none 0 0, .slice none 0 0, .slice none 0 0] 29))) := grow_alloc (grow_alloc (Below.refl _ _) _) _
  have y0 : ((w.alloc (.cells #[.int .i64 (sh : Int), .slice la l.length lc] 24)).alloc (.cells #[.slice none 0 0, .slice none 0 0, .slice none 0 0, .slice none 0 0] 29)).cell? ⟨w.heap.size, 0, none⟩ = some (.int .i64 (sh : Int)) := ext_cell (grow_alloc (Below.refl _ _) _) (at_new w _ 24 _ 0 _ rfl rfl)
  have y1 : ((w.alloc (.cells #[.int .i64 (sh : Int), .slice la l.length lc] 24)).alloc (.cells #[.slice none 0 0, .slice none 0 0, .slice none 0 0, .slice none 0 0] 29)).cell? ⟨w.heap.size, 1, none⟩ = some (.slice la l.length lc) := ext_cell (grow_alloc (Below.refl _ _) _) (at_new w _ 24 _ 1 _ rfl rfl)
  have HLW : Hid (IsTxs ((w.alloc (.cells #[.int .i64 (sh : Int), .slice la l.length lc] 24)).alloc (.cells #[.slice none 0 0, .slice none 0 0, .slice none 0 0, .slice none 0 0] 29)) la l) := hl.below hW.out
  have HSW : Hid (IsInts ((w.alloc (.cells #[.int .i64 (sh : Int), .slice la l.length lc] 24)).alloc (.cells #[.slice none 0 0, .slice none 0 0, .slice none 0 0, .slice none 0 0] 29)) sa s) := hs.below hW.out
  have T0 : Hid (∀ j, j < 4 → ((w.alloc (.cells #[.int .i64 (sh : Int), .slice la l.length lc] 24)).alloc (.cells #[.slice none 0 0, .slice none 0 0, .slice none 0 0, .slice none 0 0] 29)).cell? ⟨w.heap.size + 1, j, none⟩ = some (.slice none 0 0)) := fun j hj => by
    match j, hj with
    | 0, _ => exact at_new _ _ 29 _ 0 _ (by simp) rfl
    | 1, _ => exact at_new _ _ 29 _ 1 _ (by simp) rfl
    | 2, _ => exact at_new _ _ 29 _ 2 _ (by simp) rfl
    | 3, _ => exact at_new _ _ 29 _ 3 _ (by simp) rfl
  have TF : Hid (∀ j, ((w.alloc (.cells #[.int .i64 (sh : Int), .slice la l.length lc] 24)).alloc (.cells #[.slice none 0 0, .slice none 0 0, .slice none 0 0, .slice none 0 0] 29)).frozen? ⟨w.heap.size + 1, j, none⟩ = false) := fun j => frozen_new _ _ 29 _ j (by simp)
  have sz : Hid (((w.alloc (.cells #[.int .i64 (sh : Int), .slice la l.length lc] 24)).alloc (.cells #[.slice none 0 0, .slice none 0 0, .slice none 0 0, .slice none 0 0] 29)).heap.size = w.heap.size + 2) := by show _ = _; simp
  have H8 : Hid (s.length = 8) := h8
  obtain ⟨i4, hi4, hz4, hs4', hb4'⟩ := info_parts Tryz.info4
  obtain ⟨i3, hi3, hz3, hs3, hb3'⟩ := info_parts Tryz.info3
  obtain ⟨i65, hi65, hz65, hs65, hb65⟩ := info_parts Tryz.info65
  obtain ⟨i25, hi25, hz25, hs25, hb25⟩ := info_parts Tryz.info25
  have hb4 : i4.bytes ≤ 24 := by omega
  have hb3 : i3.bytes ≤ 24 := by omega
  have hm1 : sh ≤ 8 := by omega
  obtain ⟨MK4, hMK4⟩ : ∃ c, c = madeCells (Value.bool false).cells sh := ⟨_, rfl⟩
  have hmk4 : ∀ w, (Instr.makeSlice 65 (.int .i64 (sh : Int)) (.int .i64 (sh : Int))).run Tryz.prog w = .ok (.slice (some ⟨w.heap.size, 0, none⟩) sh sh) (w.alloc (.cells MK4 4)) := fun w => by rw [hMK4]; exact run_mk w 65 4 i4 _ Tryz.underlying65 hi4 hz4 hs4' hb4 sh hm1
  have HMK4 : Hid (MK4 = madeCells (Value.bool false).cells sh) := hMK4
  obtain ⟨sb, so, esa, _, _⟩ := hs 0 (by omega)
  subst esa
  have hnews : Hid (∀ (o : Obj) j u, ((List.range s.length).map (fun k => Value.int .i64 (s.getD k 0)))[j]? = some u → (((w.alloc (.cells #[.int .i64 (sh : Int), .slice la l.length lc] 24)).alloc (.cells #[.slice none 0 0, .slice none 0 0, .slice none 0 0, .slice none 0 0] 29)).alloc o).cell? ((⟨sb, so, none⟩ : Addr).add j) = some u) := fun o => news_range ((hs.below hW.out).below (grow_alloc (Below.refl _ _) o))
  clear hl hs hz hp hr4 h8 hMK4
  go_enter Tryz.func18, Tryz.ntmps18
  go_upto_region 1 with fail
  generalize ((w.alloc (.cells #[.int .i64 (sh : Int), .slice la l.length lc] 24)).alloc (.cells #[.slice none 0 0, .slice none 0 0, .slice none 0 0, .slice none 0 0] 29)) = W at *
  have Y1 : Hid (W.cell? ⟨w.heap.size, 1, none⟩ = some (.slice la l.length lc)) := y1
  have Y0 : Hid (W.cell? ⟨w.heap.size, 0, none⟩ = some (.int .i64 (sh : Int))) := y0
  clear y0 y1
  go_upto_region 2 with (first
      | (at_builtin; refine wpList_append_own _ rfl _ _ 25 rfl W.heap.size 3 i3 (.int .i64 0) 1 8 Tryz.underlying25 hi3 hz3 hs3 hb3' rfl (by decide) _ 0 [] rfl (World.ownsRow_lit W #[] 0 (Nat.le_refl _) (by decide) rfl) ⟨sb, so, none⟩ s.length sc ((List.range s.length).map (fun k => Value.int .i64 (s.getD k 0))) rfl (by simp) (hnews.out _) (one_range s _) (by have := H8.out; unfold maxLen; omega) (by have := H8.out; omega) (by simp) ?_; intro v' w2 hown' hgrow _; rw [List.nil_append, Nat.zero_add] at hown'; obtain ⟨a', c', g0, rfl, hn0⟩ := new_row hown')
      | go_in)
  rw [H8.out] at hn0 ⊢
  have hb2 : Below W.heap.size W w2 := (grow_alloc (Below.refl _ _) _).grown hgrow (by simp) (fun j hj => by cases hj; exact Nat.le_refl _)
  have B2 : Hid (Below W.heap.size W w2) := hb2
  have R0 : Hid (NewRow W.heap.size w2 a' c' g0 8 (fun k => .int .i64 (s.getD k 0))) := hn0
  have hWw : Hid (w.heap.size + 2 ≤ W.heap.size ∧ w.heap.size + 1 < w2.heap.size ∧ g0 < w2.heap.size) := by
    have e2 := hb2.size
    have e3 := sz.out
    exact ⟨by omega, by omega, (hn0.e (by decide)).2.2.1⟩
  have bU : Below w2.heap.size w2 (w2.alloc (.cells #[.slice a' 8 c', .slice none 0 0, .slice none 0 0, .slice none 0 0] 29)) := grow_alloc (Below.refl _ _) _
  have BG0 : Hid (Beg w2 (w2.alloc (.cells #[.slice a' 8 c', .slice none 0 0, .slice none 0 0, .slice none 0 0] 29)) w2.heap.size (.slice a' 8 c') (.slice none 0 0) (.slice none 0 0) (.slice none 0 0) 0 0 0 sh l [] [] [] (fun _ => 0) (fun _ => 0) (fun _ => 0)) :=
    ⟨at_new _ _ 29 _ 0 _ rfl rfl, at_new _ _ 29 _ 1 _ rfl rfl, at_new _ _ 29 _ 2 _ rfl rfl, at_new _ _ 29 _ 3 _ rfl rfl, fun j => frozen_new _ _ 29 _ j rfl, CR.nil _ _ _ _ _ _, CR.nil _ _ _ _ _ _, CR.nil _ _ _ _ _ _, (fun b h _ => h.elim (fun h => by cases h) (fun ⟨i, hi, _⟩ => absurd hi (Nat.not_lt_zero _))), (fun b h _ => h.elim (fun h => by cases h) (fun ⟨i, hi, _⟩ => absurd hi (Nat.not_lt_zero _))), (fun b h _ => h.elim (fun h => by cases h) (fun ⟨i, hi, _⟩ => absurd hi (Nat.not_lt_zero _))), bU, Nat.le_refl _, by simp⟩
  clear bU hn0 hb2 hown' hgrow hnews
  go_upto_region 2 with fail
  generalize (w2.alloc (.cells #[.slice a' 8 c', .slice none 0 0, .slice none 0 0, .slice none 0 0] 29)) = W3 at *
  go_upto_region 3 with fail
  go_loopw [6] (fun i wr => ∃ (k : Nat) (v1 v2 v3 : Value) (L1 L2 L3 : List (Option Addr × Nat × Nat)) (B1 B2 B3 : Nat → Nat), k ≤ l.length ∧ i = .int .i64 k ∧ Hid (Beg w2 wr w2.heap.size (.slice a' 8 c') v1 v2 v3 k k k sh l L1 L2 L3 B1 B2 B3)) (fun i _ => l.length - (intOf i).toNat)
  case atStart => exact ⟨0, _, _, _, _, _, _, _, _, _, Nat.zero_le _, rfl, BG0⟩
  case round =>
    obtain ⟨k, v1, v2, v3, L1, L2, L3, B1, B2', B3, hk, rfl, hB⟩ := hrel
    clear BG0
    by_cases hlt : k < l.length
    · obtain ⟨b, off, ea, _, t0, t1, t2, hx⟩ := (HLW.out.below B2.out) k hlt
      subst ea
      have d0 := ext_cell hB.out.bl t0
      have i1 : (k : Int) < (l.length : Int) := by omega
      have i0 : (0 : Int) ≤ (k : Int) := by omega
      have hr4 := HR4.out k hlt
      have y1 := ext_cell (grow_trans B2.out hB.out.bl) Y1.out
      have hkl : k < l.length := hlt
      clear t1 t2 hx
      generalize hgx : l.getD k x0 = x at d0 t0
      have D0 : Hid (w2.cell? ⟨b, off + k * 3, none⟩ = some (.slice x.ra x.rs.length x.rc)) := t0
      clear t0
      have HXE : Hid (gX l k = x) := hgx
      rw [show gX l k = x from hgx] at hr4
      clear hgx
      obtain ⟨MK3, hMK3⟩ : ∃ c, c = madeCells (Value.int .i64 0).cells x.rs.length := ⟨_, rfl⟩
      have hmk3 : ∀ w, (Instr.makeSlice 25 (.int .i64 (x.rs.length : Int)) (.int .i64 (x.rs.length : Int))).run Tryz.prog w = .ok (.slice (some ⟨w.heap.size, 0, none⟩) x.rs.length x.rs.length) (w.alloc (.cells MK3 3)) := fun w => by rw [hMK3]; exact run_mk w 25 3 i3 _ Tryz.underlying25 hi3 hz3 hs3 hb3 _ (by omega)
      have HMK3 : Hid (MK3 = madeCells (Value.int .i64 0).cells x.rs.length) := hMK3
      clear hMK3
      go_upto_region 5 with fail
      clear d0 y1
      have HB1 := hB
      clear hB
      obtain ⟨V, hren⟩ : ∃ V : World, V = wr := ⟨_, rfl⟩
      subst hren
      have P0 : Hid (∀ w', Below w2.heap.size w2 w' → w'.cell? ⟨w.heap.size, 0, none⟩ = some (.int .i64 (sh : Int))) := fun w' hb => ext_cell (grow_trans B2.out hb) Y0.out
      have e0 := P0.out V HB1.out.bl
      have hbN : Below V.heap.size V (((V.drew).alloc (.cells MK4 4)).alloc (.cells #[.slice (some ⟨V.heap.size, 0, none⟩) sh sh] 65)) := grow_alloc (grow_alloc (grow_drew (Below.refl _ _)) _) _
      have HBN : Hid (Below V.heap.size V (((V.drew).alloc (.cells MK4 4)).alloc (.cells #[.slice (some ⟨V.heap.size, 0, none⟩) sh sh] 65))) := hbN
      have HN : Hid (Beg w2 (((V.drew).alloc (.cells MK4 4)).alloc (.cells #[.slice (some ⟨V.heap.size, 0, none⟩) sh sh] 65)) w2.heap.size (.slice a' 8 c') v1 v2 v3 k k k sh l L1 L2 L3 B1 B2' B3) := HB1.out.below hbN
      have c1 := HB1.out.c1
      have od1 : ∀ o, (V.alloc o).cell? ⟨w2.heap.size, 1, none⟩ = some v1 := fun o => ext_cell (grow_alloc (Below.refl _ _) o) c1
      have od2 : ∀ o o', ((V.alloc o).alloc o').cell? ⟨w2.heap.size, 1, none⟩ = some v1 := fun o o' => ext_cell (grow_alloc (grow_alloc (Below.refl _ _) o) o') c1
      have hsm : Hid (L1.length ≤ 100) := by show _ ≤ _; have e := HB1.out.r1.n; omega
      clear hbN
      go_cut [] (fun wx => ∃ (v1' : Value) (L1' : List (Option Addr × Nat × Nat)) (B1' : Nat → Nat), Hid (Beg w2 wx w2.heap.size (.slice a' 8 c') v1' v2 v3 (k + 1) k k sh l L1' L2 L3 B1' B2' B3))
      case first =>
        go_region_law (first
            | (refine step_append_sl (by rfl) _ _ 26 65 (by rfl) i65 _ Tryz.underlying26 hi65 hz65 hs65 hb65 rfl (w2.heap.size + 1) v1 L1.length _ (by rfl) HN.out.r1.o ⟨_, 0, none⟩ 1 (.slice (some ⟨V.heap.size, 0, none⟩) sh sh) (by rfl) (at_new _ _ 65 _ 0 _ (by simp) rfl) rfl hsm.out HN.out.hs ?_; intro v' w5 ho3 hg3 hv3; obtain ⟨g', cap', rfl, _, _⟩ := ho3.form (by simp); have oc : w5.cell? ⟨w2.heap.size, 1, none⟩ = some v1 := hg3.cell HN.out.c1 (fun e => by have := (HN.out.r1.o.lt w2.heap.size e.symm).1; omega); have of3 : w5.frozen? ⟨w2.heap.size, 1, none⟩ = false := (World.frozen?_of_block (a := ⟨w2.heap.size, 1, none⟩) (hg3.block w2.heap.size HN.out.hs (fun e => by have := (HN.out.r1.o.lt w2.heap.size e.symm).1; omega))).trans (HN.out.fz 1)))
        all_goals (
          go_wp2_with fail
          go_meet
          obtain ⟨B', PB⟩ := Beg.push1 HB1.out HBN.out ho3 hg3 hv3 (by rw [HMK4.out]; exact made_new rfl)
          exact ⟨_, _, B', PB⟩)
      case rest =>
        obtain ⟨v1', L1', B1', HB2⟩ := hcut
        obtain ⟨V2, hren⟩ : ∃ V2 : World, V2 = wc := ⟨_, rfl⟩
        subst hren
        clear c1 od1 od2 hsm HN HBN HB1 e0
        have e0 := P0.out V2 HB2.out.bl
        have hbN : Below V2.heap.size V2 (((V2.drew).alloc (.cells MK4 4)).alloc (.cells #[.slice (some ⟨V2.heap.size, 0, none⟩) sh sh] 65)) := grow_alloc (grow_alloc (grow_drew (Below.refl _ _)) _) _
        have HBN : Hid (Below V2.heap.size V2 (((V2.drew).alloc (.cells MK4 4)).alloc (.cells #[.slice (some ⟨V2.heap.size, 0, none⟩) sh sh] 65))) := hbN
        have HN : Hid (Beg w2 (((V2.drew).alloc (.cells MK4 4)).alloc (.cells #[.slice (some ⟨V2.heap.size, 0, none⟩) sh sh] 65)) w2.heap.size (.slice a' 8 c') v1' v2 v3 (k + 1) k k sh l L1' L2 L3 B1' B2' B3) := HB2.out.below hbN
        have c2 := HB2.out.c2
        have od1 : ∀ o, (V2.alloc o).cell? ⟨w2.heap.size, 2, none⟩ = some v2 := fun o => ext_cell (grow_alloc (Below.refl _ _) o) c2
        have od2 : ∀ o o', ((V2.alloc o).alloc o').cell? ⟨w2.heap.size, 2, none⟩ = some v2 := fun o o' => ext_cell (grow_alloc (grow_alloc (Below.refl _ _) o) o') c2
        have hsm : Hid (L2.length ≤ 100) := by show _ ≤ _; have e := HB2.out.r2.n; omega
        clear hbN
        go_upto_region 6 with fail
        go_cut [] (fun wx => ∃ (v2' : Value) (L2' : List (Option Addr × Nat × Nat)) (B2'' : Nat → Nat), Hid (Beg w2 wx w2.heap.size (.slice a' 8 c') v1' v2' v3 (k + 1) (k + 1) k sh l L1' L2' L3 B1' B2'' B3))
        case first =>
          go_region_law (first
            | (refine step_append_sl (by rfl) _ _ 26 65 (by rfl) i65 _ Tryz.underlying26 hi65 hz65 hs65 hb65 rfl (w2.heap.size + 1) v2 L2.length _ (by rfl) HN.out.r2.o ⟨_, 0, none⟩ 1 (.slice (some ⟨V2.heap.size, 0, none⟩) sh sh) (by rfl) (at_new _ _ 65 _ 0 _ (by simp) rfl) rfl hsm.out HN.out.hs ?_; intro v' w5 ho3 hg3 hv3; obtain ⟨g', cap', rfl, _, _⟩ := ho3.form (by simp); have oc : w5.cell? ⟨w2.heap.size, 2, none⟩ = some v2 := hg3.cell HN.out.c2 (fun e => by have := (HN.out.r2.o.lt w2.heap.size e.symm).1; omega); have of3 : w5.frozen? ⟨w2.heap.size, 2, none⟩ = false := (World.frozen?_of_block (a := ⟨w2.heap.size, 2, none⟩) (hg3.block w2.heap.size HN.out.hs (fun e => by have := (HN.out.r2.o.lt w2.heap.size e.symm).1; omega))).trans (HN.out.fz 2)))
          all_goals (
            go_wp2_with fail
            go_meet
            obtain ⟨B', PB⟩ := Beg.push2 HB2.out HBN.out ho3 hg3 hv3 (by rw [HMK4.out]; exact made_new rfl)
            exact ⟨_, _, B', PB⟩)
        case rest =>
          obtain ⟨v2', L2', B2'', HB3⟩ := hcut
          obtain ⟨V3, hren⟩ : ∃ V3 : World, V3 = wc := ⟨_, rfl⟩
          subst hren
          clear c2 od1 od2 hsm HN HBN HB2 e0 P0
          have hbN : Below V3.heap.size V3 (((V3.drew).alloc (.cells MK3 3)).alloc (.cells #[.slice (some ⟨V3.heap.size, 0, none⟩) x.rs.length x.rs.length] 25)) := grow_alloc (grow_alloc (grow_drew (Below.refl _ _)) _) _
          have HBN : Hid (Below V3.heap.size V3 (((V3.drew).alloc (.cells MK3 3)).alloc (.cells #[.slice (some ⟨V3.heap.size, 0, none⟩) x.rs.length x.rs.length] 25))) := hbN
          have HN : Hid (Beg w2 (((V3.drew).alloc (.cells MK3 3)).alloc (.cells #[.slice (some ⟨V3.heap.size, 0, none⟩) x.rs.length x.rs.length] 25)) w2.heap.size (.slice a' 8 c') v1' v2' v3 (k + 1) (k + 1) k sh l L1' L2' L3 B1' B2'' B3) := HB3.out.below hbN
          have c3 := HB3.out.c3
          have od1 : ∀ o, (V3.alloc o).cell? ⟨w2.heap.size, 3, none⟩ = some v3 := fun o => ext_cell (grow_alloc (Below.refl _ _) o) c3
          have od2 : ∀ o o', ((V3.alloc o).alloc o').cell? ⟨w2.heap.size, 3, none⟩ = some v3 := fun o o' => ext_cell (grow_alloc (grow_alloc (Below.refl _ _) o) o') c3
          have hsm : Hid (L3.length ≤ 100) := by show _ ≤ _; have e := HB3.out.r3.n; omega
          clear hbN
          have e1 := ext_cell (grow_trans B2.out HB3.out.bl) Y1.out
          have e2 := ext_cell HB3.out.bl D0.out
          have of1 : ∀ o, (V3.alloc o).cell? ⟨w.heap.size, 1, none⟩ = some (.slice (some ⟨b, off, none⟩) l.length lc) := fun o => ext_cell (grow_alloc (Below.refl _ _) o) e1
          have of2 : ∀ o o', ((V3.alloc o).alloc o').cell? ⟨w.heap.size, 1, none⟩ = some (.slice (some ⟨b, off, none⟩) l.length lc) := fun o o' => ext_cell (grow_alloc (grow_alloc (Below.refl _ _) o) o') e1
          have og1 : ∀ o, (V3.alloc o).cell? ⟨b, off + k * 3, none⟩ = some (.slice x.ra x.rs.length x.rc) := fun o => ext_cell (grow_alloc (Below.refl _ _) o) e2
          have og2 : ∀ o o', ((V3.alloc o).alloc o').cell? ⟨b, off + k * 3, none⟩ = some (.slice x.ra x.rs.length x.rc) := fun o o' => ext_cell (grow_alloc (grow_alloc (Below.refl _ _) o) o') e2
          go_upto_region 7 with fail
          go_region_law (first
            | (refine step_append_sl (by rfl) _ _ 27 25 (by rfl) i25 _ Tryz.underlying27 hi25 hz25 hs25 hb25 rfl (w2.heap.size + 1) v3 L3.length _ (by rfl) HN.out.r3.o ⟨_, 0, none⟩ 1 (.slice (some ⟨V3.heap.size, 0, none⟩) x.rs.length x.rs.length) (by rfl) (at_new _ _ 25 _ 0 _ (by simp) rfl) rfl hsm.out HN.out.hs ?_; intro v' w5 ho3 hg3 hv3; obtain ⟨g', cap', rfl, _, _⟩ := ho3.form (by simp); have oc : w5.cell? ⟨w2.heap.size, 3, none⟩ = some v3 := hg3.cell HN.out.c3 (fun e => by have := (HN.out.r3.o.lt w2.heap.size e.symm).1; omega); have of3 : w5.frozen? ⟨w2.heap.size, 3, none⟩ = false := (World.frozen?_of_block (a := ⟨w2.heap.size, 3, none⟩) (hg3.block w2.heap.size HN.out.hs (fun e => by have := (HN.out.r3.o.lt w2.heap.size e.symm).1; omega))).trans (HN.out.fz 3)))
          all_goals (
            have HP : Hid (∃ B3', Beg w2 (w5.setCell ⟨w2.heap.size, 3, none⟩ (.slice (some ⟨g', 0, none⟩) (L3.length + 1) cap')) w2.heap.size (.slice a' 8 c') v1' v2' (.slice (some ⟨g', 0, none⟩) (L3.length + 1) cap') (k + 1) (k + 1) (k + 1) sh l L1' L2' (L3 ++ [(some ⟨V3.heap.size, 0, none⟩, (gX l k).rs.length, x.rs.length)]) B1' B2'' B3') := Beg.push3 (g := V3.heap.size) HB3.out HBN.out (by rw [HXE.out]; exact ho3) hg3 hv3 (by rw [HXE.out, HMK3.out]; exact made_new rfl)
            clear c3 od1 od2 hsm HN HBN HB3 ho3 hg3 hv3 oc of3 e1 e2 of1 of2 og1 og2
            generalize (w5.setCell ⟨w2.heap.size, 3, none⟩ (.slice (some ⟨g', 0, none⟩) (L3.length + 1) cap')) = WF at *
            go_wp2
            go_roundw
            case rel =>
              obtain ⟨B3', hp⟩ := HP.out
              exact ⟨k + 1, v1', v2', _, L1', L2', _, B1', B2'', B3', by omega, by go_num, hp⟩
            case measure => simp [intOf]; omega)
    · have hkk : k = l.length := by omega
      subst hkk
      have i1 : ¬ (l.length : Int) < (l.length : Int) := by omega
      obtain ⟨a1, k1, g1, hv1, o1⟩ := hB.out.r1.fin
      obtain ⟨a2, k2, g2, hv2, o2⟩ := hB.out.r2.fin
      obtain ⟨a3, k3, g3, hv3, o3⟩ := hB.out.r3.fin
      subst hv1 hv2 hv3
      have z0 := hB.out.c0
      have z1 := hB.out.c1
      have z2 := hB.out.c2
      have z3 := hB.out.c3
      have bw : Below W.heap.size W wr := grow_trans B2.out hB.out.bl
      have yy := ext_cell bw Y1.out
      have v0 := ext_cell bw (T0.out 0 (by decide))
      have v1 := ext_cell bw (T0.out 1 (by decide))
      have v2 := ext_cell bw (T0.out 2 (by decide))
      have v3 := ext_cell bw (T0.out 3 (by decide))
      have vf : ∀ j, wr.frozen? ⟨w.heap.size + 1, j, none⟩ = false := fun j => (bw.frozen (p := ⟨w.heap.size + 1, j, none⟩) (by have := sz.out; show w.heap.size + 1 < _; omega)).trans (TF.out j)
      have RN : NewRow (w.heap.size + 2) wr a' c' g0 8 (fun k => .int .i64 (s.getD k 0)) := by
        have r := R0.out.below hB.out.bl
        have e1 := hWw.out
        have hh := sz.out
        exact ⟨fun hn => ⟨(r.e hn).1, by have := (r.e hn).2.1; omega, (r.e hn).2.2⟩, r.z, fun ad e => by have := r.lo ad e; omega⟩
      have FQ : Hid (BegQ (w.heap.size + 2) l sh (begX sh l s) ⟨a', a1, a2, a3, 8, l.length, l.length, l.length, c', k1, k2, k3⟩ wr) := by
        have hC : w.heap.size + 2 ≤ w2.heap.size + 1 := by have := hWw.out; omega
        exact ⟨rfl, rfl, rfl, rfl, FORM.out, g0, g1, g2, g3, B1, B2', B3, RN, (o1.mono hC (Nat.le_refl _)).congr (fun i k _ _ => by show Value.bool (at2 (l.map fun _ => List.replicate sh false) i k) = _; rw [at2_beg]), (o2.mono hC (Nat.le_refl _)).congr (fun i k _ _ => by show Value.bool (at2 (l.map fun _ => List.replicate sh false) i k) = _; rw [at2_beg]), (o3.mono hC (Nat.le_refl _)).congr (fun i k _ _ => by show Value.int .i64 (((l.map fun x => List.replicate x.rs.length (0 : Int)).getD i []).getD k 0) = _; rw [vs_beg])⟩
      have FF : Hid (BegQ (w.heap.size + 2) l sh (begX sh l s) ⟨a', a1, a2, a3, 8, l.length, l.length, l.length, c', k1, k2, k3⟩ ((((wr.setCell ⟨w.heap.size + 1, 0, none⟩ (.slice a' 8 c')).setCell ⟨w.heap.size + 1, 1, none⟩ (.slice a1 l.length k1)).setCell ⟨w.heap.size + 1, 2, none⟩ (.slice a2 l.length k2)).setCell ⟨w.heap.size + 1, 3, none⟩ (.slice a3 l.length k3)) ∧ Below w.heap.size w ((((wr.setCell ⟨w.heap.size + 1, 0, none⟩ (.slice a' 8 c')).setCell ⟨w.heap.size + 1, 1, none⟩ (.slice a1 l.length k1)).setCell ⟨w.heap.size + 1, 2, none⟩ (.slice a2 l.length k2)).setCell ⟨w.heap.size + 1, 3, none⟩ (.slice a3 l.length k3))) := ⟨(((FQ.out.set _ 0 _ (Nat.lt_succ_self _)).set _ 1 _ (Nat.lt_succ_self _)).set _ 2 _ (Nat.lt_succ_self _)).set _ 3 _ (Nat.lt_succ_self _), grow_set (grow_set (grow_set (grow_set (grow_trans hW.out bw) (Nat.le_succ _) _) (Nat.le_succ _) _) (Nat.le_succ _) _) (Nat.le_succ _) _⟩
      clear FQ RN o1 o2 o3 hB bw
      go_wp2_with fail
      have x0 : ((((wr.setCell ⟨w.heap.size + 1, 0, none⟩ (.slice a' 8 c')).setCell ⟨w.heap.size + 1, 1, none⟩ (.slice a1 l.length k1)).setCell ⟨w.heap.size + 1, 2, none⟩ (.slice a2 l.length k2)).setCell ⟨w.heap.size + 1, 3, none⟩ (.slice a3 l.length k3)).cell? ⟨w.heap.size + 1, 0, none⟩ = some (.slice a' 8 c') := (set_off (by decide) (set_off (by decide) (set_off (by decide) (set_here v0))))
      have x1 : ((((wr.setCell ⟨w.heap.size + 1, 0, none⟩ (.slice a' 8 c')).setCell ⟨w.heap.size + 1, 1, none⟩ (.slice a1 l.length k1)).setCell ⟨w.heap.size + 1, 2, none⟩ (.slice a2 l.length k2)).setCell ⟨w.heap.size + 1, 3, none⟩ (.slice a3 l.length k3)).cell? ⟨w.heap.size + 1, 1, none⟩ = some (.slice a1 l.length k1) := (set_off (by decide) (set_off (by decide) (set_here (set_off (by decide) v1))))
      have x2 : ((((wr.setCell ⟨w.heap.size + 1, 0, none⟩ (.slice a' 8 c')).setCell ⟨w.heap.size + 1, 1, none⟩ (.slice a1 l.length k1)).setCell ⟨w.heap.size + 1, 2, none⟩ (.slice a2 l.length k2)).setCell ⟨w.heap.size + 1, 3, none⟩ (.slice a3 l.length k3)).cell? ⟨w.heap.size + 1, 2, none⟩ = some (.slice a2 l.length k2) := (set_off (by decide) (set_here (set_off (by decide) (set_off (by decide) v2))))
      have x3 : ((((wr.setCell ⟨w.heap.size + 1, 0, none⟩ (.slice a' 8 c')).setCell ⟨w.heap.size + 1, 1, none⟩ (.slice a1 l.length k1)).setCell ⟨w.heap.size + 1, 2, none⟩ (.slice a2 l.length k2)).setCell ⟨w.heap.size + 1, 3, none⟩ (.slice a3 l.length k3)).cell? ⟨w.heap.size + 1, 3, none⟩ = some (.slice a3 l.length k3) := (set_here (set_off (by decide) (set_off (by decide) (set_off (by decide) v3))))
      generalize ((((wr.setCell ⟨w.heap.size + 1, 0, none⟩ (.slice a' 8 c')).setCell ⟨w.heap.size + 1, 1, none⟩ (.slice a1 l.length k1)).setCell ⟨w.heap.size + 1, 2, none⟩ (.slice a2 l.length k2)).setCell ⟨w.heap.size + 1, 3, none⟩ (.slice a3 l.length k3)) = W7 at *
      refine bodyPost_ret (v := .agg #[.slice a' 8 c', .slice a1 l.length k1, .slice a2 l.length k2, .slice a3 l.length k3]) (by simp [results, Tryz.results18, go_sem, x0, x1, x2, x3]) rfl ⟨⟨a', a1, a2, a3, 8, l.length, l.length, l.length, c', k1, k2, k3⟩, rfl, (FF.out.1.staF hs0).low (by omega), FF.out.2⟩
end Go.Proofs.YtebjkmknhpgemaaGreat

namespace Go.Proofs.YtebjkmknhpgemaaGreat
open Go.RowKit

variable (la : Option Addr) (lc : Nat) (l : List TxA) (sa ra wa va : Option Addr) (sc rc tc vc : Nat) (S : SA)

set_option maxRecDepth 100000 in
set_option maxHeartbeats 2000000 in
/-- The document's allRead. -/
theorem docAllRead_any (sh n : Nat) (w : World) (hl : IsTxs w la l) (hs : Sta w sa ra wa va S) (hp : pnE sh l n = 0) (hF : Form sh l S) (hn : n < l.length) (_h8 : l.length ≤ 8) (h0 : 0 < sh) (h4 : sh ≤ 4) :
    Calls Tryz.prog 55 #[.agg #[.int .i64 (sh : Int), .slice la l.length lc], .agg #[.slice sa S.st.length sc, .slice ra S.rd.length rc, .slice wa S.wr.length tc, .slice va S.vs.length vc], .int .i64 n] w fun e w' => e = .returned (.bool (allRd sh l S n)) ∧ Below w.heap.size w w' := by
  have hW : Hid (Below w.heap.size w ((w.alloc (.cells #[.int .i64 (sh : Int), .slice la l.length lc] 24)).alloc (.cells #[.slice sa S.st.length sc, .slice ra S.rd.length rc, .slice wa S.wr.length tc, .slice va S.vs.length vc] 29))) := grow_alloc (grow_alloc (Below.refl _ _) _) _
  have p0 : ((w.alloc (.cells #[.int .i64 (sh : Int), .slice la l.length lc] 24)).alloc (.cells #[.slice sa S.st.length sc, .slice ra S.rd.length rc, .slice wa S.wr.length tc, .slice va S.vs.length vc] 29)).cell? ⟨w.heap.size, 0, none⟩ = some (.int .i64 (sh : Int)) := ext_cell (grow_alloc (Below.refl _ _) _) (at_new w _ 24 _ 0 _ rfl rfl)
  have p1 : ((w.alloc (.cells #[.int .i64 (sh : Int), .slice la l.length lc] 24)).alloc (.cells #[.slice sa S.st.length sc, .slice ra S.rd.length rc, .slice wa S.wr.length tc, .slice va S.vs.length vc] 29)).cell? ⟨w.heap.size, 1, none⟩ = some (.slice la l.length lc) := ext_cell (grow_alloc (Below.refl _ _) _) (at_new w _ 24 _ 1 _ rfl rfl)
  have q1 : ((w.alloc (.cells #[.int .i64 (sh : Int), .slice la l.length lc] 24)).alloc (.cells #[.slice sa S.st.length sc, .slice ra S.rd.length rc, .slice wa S.wr.length tc, .slice va S.vs.length vc] 29)).cell? ⟨w.heap.size + 1, 1, none⟩ = some (.slice ra S.rd.length rc) := at_new _ _ 29 _ 1 _ (by simp) rfl
  have CP : Hid (Calls Tryz.prog 53 #[.agg #[.int .i64 sh, .slice la l.length lc], .int .i64 n] ((w.alloc (.cells #[.int .i64 (sh : Int), .slice la l.length lc] 24)).alloc (.cells #[.slice sa S.st.length sc, .slice ra S.rd.length rc, .slice wa S.wr.length tc, .slice va S.vs.length vc] 29)) fun e w' => ∃ a c, e = .returned (.slice a (marks sh (keysIn (locksAt l n))).length c) ∧ IsBools w' a (marks sh (keysIn (locksAt l n))) ∧ Below ((w.alloc (.cells #[.int .i64 (sh : Int), .slice la l.length lc] 24)).alloc (.cells #[.slice sa S.st.length sc, .slice ra S.rd.length rc, .slice wa S.wr.length tc, .slice va S.vs.length vc] 29)).heap.size ((w.alloc (.cells #[.int .i64 (sh : Int), .slice la l.length lc] 24)).alloc (.cells #[.slice sa S.st.length sc, .slice ra S.rd.length rc, .slice wa S.wr.length tc, .slice va S.vs.length vc] 29)) w') := partOf_any la lc l sh n _ (hl.below hW.out) hp
  have HS : Hid (Sta ((w.alloc (.cells #[.int .i64 (sh : Int), .slice la l.length lc] 24)).alloc (.cells #[.slice sa S.st.length sc, .slice ra S.rd.length rc, .slice wa S.wr.length tc, .slice va S.vs.length vc] 29)) sa ra wa va S) := hs.below hW.out
  have HM : Hid (∀ k, (marks sh (keysIn (locksAt l n))).getD k false = ptB sh (gX l n) k) := fun _ => rfl
  have HL : Hid ((marks sh (keysIn (locksAt l n))).length = sh) := marks_len _ _
  have HF : Hid (Form sh l S) := hF
  have HA : Hid (allRd sh l S n = (List.range sh).all (fun k => !ptB sh (gX l n) k || at2 S.rd n k)) := rfl
  clear hl hs hF hp
  generalize allRd sh l S n = R at *
  go_enter Tryz.func55, Tryz.ntmps55
  go_upto_region 1 with fail
  generalize ((w.alloc (.cells #[.int .i64 (sh : Int), .slice la l.length lc] 24)).alloc (.cells #[.slice sa S.st.length sc, .slice ra S.rd.length rc, .slice wa S.wr.length tc, .slice va S.vs.length vc] 29)) = W at *
  go_wp2_with fail
  refine CP.out.mono ?_
  rintro e w1 ⟨a, c, rfl, hbs, hb1⟩
  have B1 : Hid (Below w.heap.size w w1) := grow_trans hW.out hb1
  have HB : Hid (IsBools w1 a (marks sh (keysIn (locksAt l n)))) := hbs
  have x0 := ext_cell hb1 p0
  have y1 := ext_cell hb1 q1
  obtain ⟨b4, o4, b5, o5, c5, e4, _, _, z4, z5⟩ := (HS.out.below hb1).rd.rows HF.out.rd HF.out.rn h0 n hn
  have Z5 : Hid (∀ k, k < sh → w1.cell? ⟨b5, o5 + k, none⟩ = some (.bool (at2 S.rd n k))) := z5
  rw [e4, HF.out.rd] at y1
  clear CP hbs hb1 p0 p1 q1 z5 e4
  rw [HL.out]
  go_wp2
  go_loop [8] (fun i => ∃ k : Nat, k ≤ sh ∧ i = .int .i64 k ∧ Hid ((List.range k).all (fun k => !ptB sh (gX l n) k || at2 S.rd n k) = true)) (fun i => sh - (intOf i).toNat)
  case atStart => exact ⟨0, Nat.zero_le _, rfl, rfl⟩
  case round =>
    obtain ⟨k, hk, rfl, hall⟩ := hrel
    by_cases hlt : k < sh
    · obtain ⟨b1, o1, ea, _, d1⟩ := HB.out k (by rw [HL.out]; exact hlt)
      subst ea
      rw [HM.out k] at d1
      have d4 := Z5.out k hlt
      have hstep : Hid ((List.range (k + 1)).all (fun k => !ptB sh (gX l n) k || at2 S.rd n k) = (!ptB sh (gX l n) k || at2 S.rd n k)) := by
        show _ = _
        rw [all_to, hall.out, Bool.true_and]
      have hstop : Hid ((!ptB sh (gX l n) k || at2 S.rd n k) = false → R = false) := fun e => by rw [HA.out]; exact all_stop hlt e
      have i1 : (k : Int) < (sh : Int) := by omega
      generalize ptB sh (gX l n) k = P at *
      generalize at2 S.rd n k = Q at *
      clear hall
      cases P
      · go_wp2
        go_round
        case rel => exact ⟨k + 1, by omega, by go_num, by show _ = _; rw [hstep.out]; rfl⟩
        case measure => simp [intOf]; omega
      · cases Q
        · have HR : Hid (R = false) := hstop.out rfl
          clear hstop hstep
          go_wp2
          go_ret
          exact ⟨by rw [HR.out]; rfl, B1.out⟩
        · go_wp2
          go_round
          case rel => exact ⟨k + 1, by omega, by go_num, by show _ = _; rw [hstep.out]; rfl⟩
          case measure => simp [intOf]; omega
    · have hkk : k = sh := by omega
      subst hkk
      have HR : Hid (R = true) := by show _ = _; rw [HA.out]; exact hall.out
      have i1 : ¬ (k : Int) < (k : Int) := by omega
      go_wp2
      go_ret
      exact ⟨by rw [HR.out]; rfl, B1.out⟩

set_option maxRecDepth 100000 in
set_option maxHeartbeats 2000000 in
/-- The document's gone. -/
theorem docGone_any (sh n k : Nat) (w : World) (hl : IsTxs w la l) (hs : Sta w sa ra wa va S) (hp : pnE sh l n = 0) (hF : Form sh l S) (hn : n < l.length) (hk : k < sh) (h4 : sh ≤ 4) :
    Calls Tryz.prog 61 #[.agg #[.int .i64 (sh : Int), .slice la l.length lc], .agg #[.slice sa S.st.length sc, .slice ra S.rd.length rc, .slice wa S.wr.length tc, .slice va S.vs.length vc], .int .i64 n, .int .i64 k] w fun e w' => e = .returned (.bool (goneB sh l S n k)) ∧ Below w.heap.size w w' := by
  have h0 : 0 < sh := by omega
  have hW : Hid (Below w.heap.size w ((w.alloc (.cells #[.int .i64 (sh : Int), .slice la l.length lc] 24)).alloc (.cells #[.slice sa S.st.length sc, .slice ra S.rd.length rc, .slice wa S.wr.length tc, .slice va S.vs.length vc] 29))) := grow_alloc (grow_alloc (Below.refl _ _) _) _
  have p0 : ((w.alloc (.cells #[.int .i64 (sh : Int), .slice la l.length lc] 24)).alloc (.cells #[.slice sa S.st.length sc, .slice ra S.rd.length rc, .slice wa S.wr.length tc, .slice va S.vs.length vc] 29)).cell? ⟨w.heap.size, 0, none⟩ = some (.int .i64 (sh : Int)) := ext_cell (grow_alloc (Below.refl _ _) _) (at_new w _ 24 _ 0 _ rfl rfl)
  have p1 : ((w.alloc (.cells #[.int .i64 (sh : Int), .slice la l.length lc] 24)).alloc (.cells #[.slice sa S.st.length sc, .slice ra S.rd.length rc, .slice wa S.wr.length tc, .slice va S.vs.length vc] 29)).cell? ⟨w.heap.size, 1, none⟩ = some (.slice la l.length lc) := ext_cell (grow_alloc (Below.refl _ _) _) (at_new w _ 24 _ 1 _ rfl rfl)
  have q1 : ((w.alloc (.cells #[.int .i64 (sh : Int), .slice la l.length lc] 24)).alloc (.cells #[.slice sa S.st.length sc, .slice ra S.rd.length rc, .slice wa S.wr.length tc, .slice va S.vs.length vc] 29)).cell? ⟨w.heap.size + 1, 1, none⟩ = some (.slice ra S.rd.length rc) := at_new _ _ 29 _ 1 _ (by simp) rfl
  have q2 : ((w.alloc (.cells #[.int .i64 (sh : Int), .slice la l.length lc] 24)).alloc (.cells #[.slice sa S.st.length sc, .slice ra S.rd.length rc, .slice wa S.wr.length tc, .slice va S.vs.length vc] 29)).cell? ⟨w.heap.size + 1, 2, none⟩ = some (.slice wa S.wr.length tc) := at_new _ _ 29 _ 2 _ (by simp) rfl
  have CP : Hid (Calls Tryz.prog 53 #[.agg #[.int .i64 sh, .slice la l.length lc], .int .i64 n] ((w.alloc (.cells #[.int .i64 (sh : Int), .slice la l.length lc] 24)).alloc (.cells #[.slice sa S.st.length sc, .slice ra S.rd.length rc, .slice wa S.wr.length tc, .slice va S.vs.length vc] 29)) fun e w' => ∃ a c, e = .returned (.slice a (marks sh (keysIn (locksAt l n))).length c) ∧ IsBools w' a (marks sh (keysIn (locksAt l n))) ∧ Below ((w.alloc (.cells #[.int .i64 (sh : Int), .slice la l.length lc] 24)).alloc (.cells #[.slice sa S.st.length sc, .slice ra S.rd.length rc, .slice wa S.wr.length tc, .slice va S.vs.length vc] 29)).heap.size ((w.alloc (.cells #[.int .i64 (sh : Int), .slice la l.length lc] 24)).alloc (.cells #[.slice sa S.st.length sc, .slice ra S.rd.length rc, .slice wa S.wr.length tc, .slice va S.vs.length vc] 29)) w') := partOf_any la lc l sh n _ (hl.below hW.out) hp
  have CA : Hid (∀ w1, Below ((w.alloc (.cells #[.int .i64 (sh : Int), .slice la l.length lc] 24)).alloc (.cells #[.slice sa S.st.length sc, .slice ra S.rd.length rc, .slice wa S.wr.length tc, .slice va S.vs.length vc] 29)).heap.size ((w.alloc (.cells #[.int .i64 (sh : Int), .slice la l.length lc] 24)).alloc (.cells #[.slice sa S.st.length sc, .slice ra S.rd.length rc, .slice wa S.wr.length tc, .slice va S.vs.length vc] 29)) w1 → Calls Tryz.prog 54 #[.agg #[.int .i64 sh, .slice la l.length lc], .int .i64 n] w1 fun e w' => ∃ a c, e = .returned (.slice a (marks sh (setsIn (locksAt l n))).length c) ∧ IsBools w' a (marks sh (setsIn (locksAt l n))) ∧ Below w1.heap.size w1 w') := fun w1 hb => activeOf_any la lc l sh n _ ((hl.below hW.out).below hb) hp
  have HS : Hid (Sta ((w.alloc (.cells #[.int .i64 (sh : Int), .slice la l.length lc] 24)).alloc (.cells #[.slice sa S.st.length sc, .slice ra S.rd.length rc, .slice wa S.wr.length tc, .slice va S.vs.length vc] 29)) sa ra wa va S) := hs.below hW.out
  have HM : Hid ((marks sh (keysIn (locksAt l n))).getD k false = ptB sh (gX l n) k) := rfl
  have HM2 : Hid ((marks sh (setsIn (locksAt l n))).getD k false = acB sh (gX l n) k) := rfl
  have HL : Hid ((marks sh (keysIn (locksAt l n))).length = sh) := marks_len _ _
  have HL2 : Hid ((marks sh (setsIn (locksAt l n))).length = sh) := marks_len _ _
  have HF : Hid (Form sh l S) := hF
  have HR : Hid (goneB sh l S n k = if ptB sh (gX l n) k = true then (if acB sh (gX l n) k = true then at2 S.wr n k else at2 S.rd n k) else true) := by
    show _ = _
    unfold goneB
    cases ptB sh (gX l n) k <;> cases acB sh (gX l n) k <;> rfl
  clear hl hs hF hp
  generalize goneB sh l S n k = R at *
  go_enter Tryz.func61, Tryz.ntmps61
  go_upto_region 1 with fail
  generalize ((w.alloc (.cells #[.int .i64 (sh : Int), .slice la l.length lc] 24)).alloc (.cells #[.slice sa S.st.length sc, .slice ra S.rd.length rc, .slice wa S.wr.length tc, .slice va S.vs.length vc] 29)) = W at *
  go_wp2_with fail
  refine CP.out.mono ?_
  rintro e w1 ⟨a, c, rfl, hbs, hb1⟩
  have B1 : Hid (Below W.heap.size W w1) := hb1
  obtain ⟨b1, o1, ea, _, d1⟩ := hbs k (by rw [HL.out]; exact hk)
  subst ea
  rw [HM.out] at d1
  rw [HL.out]
  have x0 := ext_cell hb1 p0
  have x1 := ext_cell hb1 p1
  clear CP hbs hb1
  generalize ptB sh (gX l n) k = P at *
  cases P
  · have HR' : Hid (R = true) := by show _ = _; rw [HR.out]; rfl
    have BF : Hid (Below w.heap.size w w1) := grow_trans hW.out B1.out
    clear HR
    go_wp2
    go_ret
    exact ⟨by rw [HR'.out]; rfl, BF.out⟩
  · go_wp2_with fail
    refine (CA.out _ B1.out).mono ?_
    rintro e w2 ⟨a, c, rfl, hbs, hb2⟩
    have B2 : Hid (Below W.heap.size W w2) := grow_trans B1.out hb2
    obtain ⟨b3, o3, ea, _, d3⟩ := hbs k (by rw [HL2.out]; exact hk)
    subst ea
    rw [HM2.out] at d3
    rw [HL2.out]
    have y1 := ext_cell B2.out q1
    have y2 := ext_cell B2.out q2
    obtain ⟨b4, o4, b5, o5, c5, e4, _, _, z4, z5⟩ := (HS.out.below B2.out).rd.rows HF.out.rd HF.out.rn h0 n hn
    obtain ⟨b6, o6, b7, o7, c7, e6, _, _, z6, z7⟩ := (HS.out.below B2.out).wr.rows HF.out.wr HF.out.wn h0 n hn
    have z5 := z5 k hk
    have z7 := z7 k hk
    rw [e4, HF.out.rd] at y1
    rw [e6, HF.out.wr] at y2
    have BF : Hid (Below w.heap.size w w2) := grow_trans hW.out B2.out
    clear CA hbs hb2 e4 e6 d1 x0 x1
    generalize acB sh (gX l n) k = Q at *
    cases Q
    · have HR' : Hid (R = at2 S.rd n k) := by show _ = _; rw [HR.out]; rfl
      clear HR
      go_wp2
      go_ret
      exact ⟨by rw [HR'.out]; rfl, BF.out⟩
    · have HR' : Hid (R = at2 S.wr n k) := by show _ = _; rw [HR.out]; rfl
      clear HR
      go_wp2
      go_ret
      exact ⟨by rw [HR'.out]; rfl, BF.out⟩
end Go.Proofs.YtebjkmknhpgemaaGreat

namespace Go.Proofs.YtebjkmknhpgemaaGreat
open Go.RowKit

theorem Hid.of {p : Prop} (h : p) : Hid p := h
theorem pnE_in {sh : Nat} {l : List TxA} (hp : planE (sh : Int) l = 0) {n : Nat} (hn : n < l.length) : pnE sh l n = 0 := by
  have e : noneE (n : Int) l.length = 0 := by
    unfold noneE
    rw [if_neg (by omega)]
  unfold pnE
  rw [hp, e]; rfl
variable (la : Option Addr) (lc : Nat) (l : List TxA) (sa ra wa va : Option Addr) (sc rc tc vc : Nat) (S : SA)

set_option maxRecDepth 100000 in
set_option maxHeartbeats 2000000 in
/-- The document's OverOf. -/
theorem docOver_any (sh : Nat) (w : World) (hl : IsTxs w la l) (hs : Sta w sa ra wa va S) (hp : planE (sh : Int) l = 0) (hF : Form sh l S) :
    Calls Tryz.prog 23 #[.agg #[.int .i64 (sh : Int), .slice la l.length lc], .agg #[.slice sa S.st.length sc, .slice ra S.rd.length rc, .slice wa S.wr.length tc, .slice va S.vs.length vc]] w fun e w' => e = .returned (.bool (overB sh l S)) ∧ Below w.heap.size w w' := by
  have hz := planE_zero hp
  have hl8 := chkL_len hz.2.2
  have h4 : sh ≤ 4 := by omega
  have hW : Hid (Below w.heap.size w ((w.alloc (.cells #[.int .i64 (sh : Int), .slice la l.length lc] 24)).alloc (.cells #[.slice sa S.st.length sc, .slice ra S.rd.length rc, .slice wa S.wr.length tc, .slice va S.vs.length vc] 29))) := grow_alloc (grow_alloc (Below.refl _ _) _) _
  have p0 : ((w.alloc (.cells #[.int .i64 (sh : Int), .slice la l.length lc] 24)).alloc (.cells #[.slice sa S.st.length sc, .slice ra S.rd.length rc, .slice wa S.wr.length tc, .slice va S.vs.length vc] 29)).cell? ⟨w.heap.size, 0, none⟩ = some (.int .i64 (sh : Int)) := ext_cell (grow_alloc (Below.refl _ _) _) (at_new w _ 24 _ 0 _ rfl rfl)
  have p1 : ((w.alloc (.cells #[.int .i64 (sh : Int), .slice la l.length lc] 24)).alloc (.cells #[.slice sa S.st.length sc, .slice ra S.rd.length rc, .slice wa S.wr.length tc, .slice va S.vs.length vc] 29)).cell? ⟨w.heap.size, 1, none⟩ = some (.slice la l.length lc) := ext_cell (grow_alloc (Below.refl _ _) _) (at_new w _ 24 _ 1 _ rfl rfl)
  have q0 : ((w.alloc (.cells #[.int .i64 (sh : Int), .slice la l.length lc] 24)).alloc (.cells #[.slice sa S.st.length sc, .slice ra S.rd.length rc, .slice wa S.wr.length tc, .slice va S.vs.length vc] 29)).cell? ⟨w.heap.size + 1, 0, none⟩ = some (.slice sa S.st.length sc) := at_new _ _ 29 _ 0 _ (by simp) rfl
  have q1 : ((w.alloc (.cells #[.int .i64 (sh : Int), .slice la l.length lc] 24)).alloc (.cells #[.slice sa S.st.length sc, .slice ra S.rd.length rc, .slice wa S.wr.length tc, .slice va S.vs.length vc] 29)).cell? ⟨w.heap.size + 1, 1, none⟩ = some (.slice ra S.rd.length rc) := at_new _ _ 29 _ 1 _ (by simp) rfl
  have q2 : ((w.alloc (.cells #[.int .i64 (sh : Int), .slice la l.length lc] 24)).alloc (.cells #[.slice sa S.st.length sc, .slice ra S.rd.length rc, .slice wa S.wr.length tc, .slice va S.vs.length vc] 29)).cell? ⟨w.heap.size + 1, 2, none⟩ = some (.slice wa S.wr.length tc) := at_new _ _ 29 _ 2 _ (by simp) rfl
  have q3 : ((w.alloc (.cells #[.int .i64 (sh : Int), .slice la l.length lc] 24)).alloc (.cells #[.slice sa S.st.length sc, .slice ra S.rd.length rc, .slice wa S.wr.length tc, .slice va S.vs.length vc] 29)).cell? ⟨w.heap.size + 1, 3, none⟩ = some (.slice va S.vs.length vc) := at_new _ _ 29 _ 3 _ (by simp) rfl
  have KEEP : Hid (∀ w', Below ((w.alloc (.cells #[.int .i64 (sh : Int), .slice la l.length lc] 24)).alloc (.cells #[.slice sa S.st.length sc, .slice ra S.rd.length rc, .slice wa S.wr.length tc, .slice va S.vs.length vc] 29)).heap.size ((w.alloc (.cells #[.int .i64 (sh : Int), .slice la l.length lc] 24)).alloc (.cells #[.slice sa S.st.length sc, .slice ra S.rd.length rc, .slice wa S.wr.length tc, .slice va S.vs.length vc] 29)) w' → w'.cell? ⟨w.heap.size, 0, none⟩ = some (.int .i64 (sh : Int)) ∧ w'.cell? ⟨w.heap.size, 1, none⟩ = some (.slice la l.length lc) ∧ w'.cell? ⟨w.heap.size + 1, 0, none⟩ = some (.slice sa S.st.length sc) ∧ w'.cell? ⟨w.heap.size + 1, 1, none⟩ = some (.slice ra S.rd.length rc) ∧ w'.cell? ⟨w.heap.size + 1, 2, none⟩ = some (.slice wa S.wr.length tc) ∧ w'.cell? ⟨w.heap.size + 1, 3, none⟩ = some (.slice va S.vs.length vc)) := fun w' hb => ⟨ext_cell hb p0, ext_cell hb p1, ext_cell hb q0, ext_cell hb q1, ext_cell hb q2, ext_cell hb q3⟩
  have CG : Hid (∀ w' n k, Below ((w.alloc (.cells #[.int .i64 (sh : Int), .slice la l.length lc] 24)).alloc (.cells #[.slice sa S.st.length sc, .slice ra S.rd.length rc, .slice wa S.wr.length tc, .slice va S.vs.length vc] 29)).heap.size ((w.alloc (.cells #[.int .i64 (sh : Int), .slice la l.length lc] 24)).alloc (.cells #[.slice sa S.st.length sc, .slice ra S.rd.length rc, .slice wa S.wr.length tc, .slice va S.vs.length vc] 29)) w' → n < l.length → k < sh → Calls Tryz.prog 61 #[.agg #[.int .i64 (sh : Int), .slice la l.length lc], .agg #[.slice sa S.st.length sc, .slice ra S.rd.length rc, .slice wa S.wr.length tc, .slice va S.vs.length vc], .int .i64 (n : Int), .int .i64 (k : Int)] w' fun e w'' => e = .returned (.bool (goneB sh l S n k)) ∧ Below w'.heap.size w' w'') := fun w' n k hb hn hk => docGone_any la lc l sa ra wa va sc rc tc vc S sh n k w' ((hl.below hW.out).below hb) ((hs.below hW.out).below hb) (pnE_in hp hn) hF hn hk h4
  have HF : Hid (overB sh l S = overTo sh l S l.length) := rfl
  have HS : Hid (∀ n, overTo sh l S (n + 1) = (overTo sh l S n && (List.range sh).all (goneB sh l S n))) := overTo_step sh l S
  have HB : Hid (∀ n k, n < l.length → k < sh → goneB sh l S n k = false → overB sh l S = false) := fun n k hn hk e => all_stop hn (all_stop hk e)
  have H0 : Hid (overTo sh l S 0 = true) := rfl
  clear hl hs hp hF hz p0 p1 q0 q1 q2 q3
  generalize overB sh l S = R at *
  generalize hot : overTo sh l S = ot at *
  clear hot
  go_enter Tryz.func23, Tryz.ntmps23
  go_upto_region 1 with fail
  generalize ((w.alloc (.cells #[.int .i64 (sh : Int), .slice la l.length lc] 24)).alloc (.cells #[.slice sa S.st.length sc, .slice ra S.rd.length rc, .slice wa S.wr.length tc, .slice va S.vs.length vc] 29)) = W at *
  go_wp2
  go_loopw [5, 6] (fun i _ wr => ∃ n : Nat, n ≤ l.length ∧ i = .int .i64 n ∧ Hid (ot n = true) ∧ Hid (Below W.heap.size W wr)) (fun i _ _ => l.length - (intOf i).toNat)
  case atStart => exact ⟨0, Nat.zero_le _, rfl, H0, Below.refl _ _⟩
  case round =>
    obtain ⟨n, hn, rfl, hall, hB⟩ := hrel
    obtain ⟨p0, p1, q0, q1, q2, q3⟩ := KEEP.out wr hB.out
    by_cases hlt : n < l.length
    · have i1 : (n : Int) < (l.length : Int) := by omega
      have HN : Hid ((List.range sh).all (goneB sh l S n) = true → ot (n + 1) = true) := fun e => by rw [HS.out, hall.out, e]; rfl
      clear hall
      go_wp2
      clear p0 p1 q0 q1 q2 q3
      go_loopw [6] (fun j wq => ∃ k : Nat, k ≤ sh ∧ j = .int .i64 k ∧ Hid ((List.range k).all (goneB sh l S n) = true) ∧ Hid (Below W.heap.size W wq)) (fun j _ => sh - (intOf j).toNat)
      case atStart => exact ⟨0, Nat.zero_le _, rfl, rfl, hB⟩
      case round =>
        clear hB
        obtain ⟨k, hk, rfl, hal, hB⟩ := hrel
        obtain ⟨p0, p1, q0, q1, q2, q3⟩ := KEEP.out _ hB.out
        by_cases hlt2 : k < sh
        · have j1 : (k : Int) < (sh : Int) := by omega
          have HT : Hid ((List.range (k + 1)).all (goneB sh l S n) = goneB sh l S n k) := by show _ = _; rw [all_to, hal.out, Bool.true_and]
          have HBk : Hid (goneB sh l S n k = false → R = false) := HB.out n k hlt hlt2
          have CGh := Hid.of (CG.out _ n k hB.out hlt hlt2)
          clear hal
          generalize hg : goneB sh l S n k = G at HT HBk CGh
          clear hg
          cases G
          · have HR : Hid (R = false) := HBk.out rfl
            clear HT HBk
            go_wp2_with fail
            refine CGh.out.mono ?_
            rintro e w2 ⟨rfl, hw2⟩
            have BF : Hid (Below w.heap.size w w2) := grow_trans hW.out (grow_trans hB.out hw2)
            clear CGh hw2 p0 p1 q0 q1 q2 q3
            go_wp2
            go_ret
            exact ⟨by rw [HR.out]; rfl, BF.out⟩
          · clear HBk
            go_wp2_with fail
            refine CGh.out.mono ?_
            rintro e w2 ⟨rfl, hw2⟩
            have BF : Hid (Below W.heap.size W w2) := grow_trans hB.out hw2
            clear CGh hw2 p0 p1 q0 q1 q2 q3
            go_wp2
            go_roundw
            case rel => exact ⟨k + 1, by omega, by go_num, HT.out, BF⟩
            case measure => simp [intOf]; omega
        · have hkk : k = sh := by omega
          have j1 : ¬ (k : Int) < (sh : Int) := by omega
          have HT : Hid (ot (n + 1) = true) := HN.out (by have := hal.out; rw [hkk] at this; exact this)
          clear hal HN
          go_wp2
          go_roundw
          case rel => exact ⟨n + 1, by omega, by go_num, HT, hB⟩
          case measure => simp [intOf]; omega
    · have hnn : n = l.length := by omega
      have i1 : ¬ (n : Int) < (l.length : Int) := by omega
      have HR : Hid (R = true) := by have := hall.out; rw [hnn] at this; exact HF.out.trans this
      have BF : Hid (Below w.heap.size w wr) := grow_trans hW.out hB.out
      clear hall
      go_wp2
      go_ret
      exact ⟨by rw [HR.out]; rfl, BF.out⟩
end Go.Proofs.YtebjkmknhpgemaaGreat

namespace Go.Proofs.YtebjkmknhpgemaaGreat
open Go.RowKit

/-- One row of marks, as it lies. -/
theorem IsBB.row {w : World} {a : Option Addr} {rows : List (List Bool)} (h : IsBB w a rows) {n sh : Nat} (hn : n < rows.length) (hs : (rows.getD n []).length = sh) (h0 : 0 < sh) : ∃ b4 o4 b5 o5 c5, a = some ⟨b4, o4, none⟩ ∧ w.cell? ⟨b4, o4 + n, none⟩ = some (.slice (some ⟨b5, o5, none⟩) sh c5) ∧ ∀ k, k < sh → w.cell? ⟨b5, o5 + k, none⟩ = some (.bool (at2 rows n k)) := by
  obtain ⟨b, off, a', c', ha, _, hc, hb, _⟩ := h n hn
  rw [hs] at hc
  obtain ⟨b5, o5, rfl, _, _⟩ := hb 0 (by rw [hs]; exact h0)
  refine ⟨b, off, b5, o5, c', ha, hc, fun k hk => ?_⟩
  obtain ⟨b6, o6, e, _, d⟩ := hb k (by rw [hs]; exact hk)
  cases e
  exact d
/-- What CheckState asks of one transaction. -/
def rowB (sh : Nat) (l : List TxA) (S : SA) (n k : Nat) : Bool := (!at2 S.rd n k || ptB sh (gX l n) k) && (!at2 S.wr n k || (acB sh (gX l n) k && allRd sh l S n))
def rowF (sh : Nat) (l : List TxA) (S : SA) (n : Nat) : Bool := decide ((S.rd.getD n []).length = sh) && decide ((S.wr.getD n []).length = sh) && decide ((S.vs.getD n []).length = (gX l n).rs.length)
def rowC (sh : Nat) (l : List TxA) (S : SA) (n : Nat) : Bool := rowF sh l S n && (List.range sh).all (rowB sh l S n)
def lens (l : List TxA) (S : SA) : Bool := decide (S.st.length = 8) && decide (S.rd.length = l.length) && decide (S.wr.length = l.length) && decide (S.vs.length = l.length)
theorem form_rows (sh : Nat) (l : List TxA) (S : SA) : (formB sh l S && truthB sh l S) = (lens l S && (List.range l.length).all (rowC sh l S)) := by
  have e1 : formB sh l S = (lens l S && (List.range l.length).all (rowF sh l S)) := rfl
  have e2 : truthB sh l S = (List.range l.length).all (fun n => (List.range sh).all (rowB sh l S n)) := rfl
  rw [e1, e2, Bool.and_assoc]
  congr 1
  rw [Bool.eq_iff_iff]
  simp only [Bool.and_eq_true, List.all_eq_true]
  constructor
  · rintro ⟨h1, h2⟩ n hn
    unfold rowC
    rw [h1 n hn, Bool.true_and, List.all_eq_true]
    exact h2 n hn
  · intro h
    constructor
    · intro n hn
      have := h n hn
      unfold rowC at this
      rw [Bool.and_eq_true] at this
      exact this.1
    · intro n hn
      have := h n hn
      unfold rowC at this
      rw [Bool.and_eq_true, List.all_eq_true] at this
      exact this.2

variable (la : Option Addr) (lc : Nat) (l : List TxA) (sa ra wa va : Option Addr) (sc rc tc vc : Nat) (S : SA)

set_option maxRecDepth 100000 in
set_option maxHeartbeats 2000000 in
/-- The document's allRead, where only the row itself is known to be as long as it must be. -/
theorem docAllRead_row (sh n : Nat) (w : World) (hl : IsTxs w la l) (hs : Sta w sa ra wa va S) (hp : pnE sh l n = 0) (hrl : S.rd.length = l.length) (hrw : (S.rd.getD n []).length = sh) (hn : n < l.length) (h0 : 0 < sh) (h4 : sh ≤ 4) (_h8 : l.length ≤ 8) :
    Calls Tryz.prog 55 #[.agg #[.int .i64 (sh : Int), .slice la l.length lc], .agg #[.slice sa S.st.length sc, .slice ra S.rd.length rc, .slice wa S.wr.length tc, .slice va S.vs.length vc], .int .i64 n] w fun e w' => e = .returned (.bool (allRd sh l S n)) ∧ Below w.heap.size w w' := by
  have hW : Hid (Below w.heap.size w ((w.alloc (.cells #[.int .i64 (sh : Int), .slice la l.length lc] 24)).alloc (.cells #[.slice sa S.st.length sc, .slice ra S.rd.length rc, .slice wa S.wr.length tc, .slice va S.vs.length vc] 29))) := grow_alloc (grow_alloc (Below.refl _ _) _) _
  have p0 : ((w.alloc (.cells #[.int .i64 (sh : Int), .slice la l.length lc] 24)).alloc (.cells #[.slice sa S.st.length sc, .slice ra S.rd.length rc, .slice wa S.wr.length tc, .slice va S.vs.length vc] 29)).cell? ⟨w.heap.size, 0, none⟩ = some (.int .i64 (sh : Int)) := ext_cell (grow_alloc (Below.refl _ _) _) (at_new w _ 24 _ 0 _ rfl rfl)
  have p1 : ((w.alloc (.cells #[.int .i64 (sh : Int), .slice la l.length lc] 24)).alloc (.cells #[.slice sa S.st.length sc, .slice ra S.rd.length rc, .slice wa S.wr.length tc, .slice va S.vs.length vc] 29)).cell? ⟨w.heap.size, 1, none⟩ = some (.slice la l.length lc) := ext_cell (grow_alloc (Below.refl _ _) _) (at_new w _ 24 _ 1 _ rfl rfl)
  have q1 : ((w.alloc (.cells #[.int .i64 (sh : Int), .slice la l.length lc] 24)).alloc (.cells #[.slice sa S.st.length sc, .slice ra S.rd.length rc, .slice wa S.wr.length tc, .slice va S.vs.length vc] 29)).cell? ⟨w.heap.size + 1, 1, none⟩ = some (.slice ra S.rd.length rc) := at_new _ _ 29 _ 1 _ (by simp) rfl
  have CP : Hid (Calls Tryz.prog 53 #[.agg #[.int .i64 sh, .slice la l.length lc], .int .i64 n] ((w.alloc (.cells #[.int .i64 (sh : Int), .slice la l.length lc] 24)).alloc (.cells #[.slice sa S.st.length sc, .slice ra S.rd.length rc, .slice wa S.wr.length tc, .slice va S.vs.length vc] 29)) fun e w' => ∃ a c, e = .returned (.slice a (marks sh (keysIn (locksAt l n))).length c) ∧ IsBools w' a (marks sh (keysIn (locksAt l n))) ∧ Below ((w.alloc (.cells #[.int .i64 (sh : Int), .slice la l.length lc] 24)).alloc (.cells #[.slice sa S.st.length sc, .slice ra S.rd.length rc, .slice wa S.wr.length tc, .slice va S.vs.length vc] 29)).heap.size ((w.alloc (.cells #[.int .i64 (sh : Int), .slice la l.length lc] 24)).alloc (.cells #[.slice sa S.st.length sc, .slice ra S.rd.length rc, .slice wa S.wr.length tc, .slice va S.vs.length vc] 29)) w') := partOf_any la lc l sh n _ (hl.below hW.out) hp
  have HS : Hid (Sta ((w.alloc (.cells #[.int .i64 (sh : Int), .slice la l.length lc] 24)).alloc (.cells #[.slice sa S.st.length sc, .slice ra S.rd.length rc, .slice wa S.wr.length tc, .slice va S.vs.length vc] 29)) sa ra wa va S) := hs.below hW.out
  have HM : Hid (∀ k, (marks sh (keysIn (locksAt l n))).getD k false = ptB sh (gX l n) k) := fun _ => rfl
  have HL : Hid ((marks sh (keysIn (locksAt l n))).length = sh) := marks_len _ _
  have HRL : Hid (S.rd.length = l.length) := hrl
  have HRW : Hid ((S.rd.getD n []).length = sh) := hrw
  have HA : Hid (allRd sh l S n = (List.range sh).all (fun k => !ptB sh (gX l n) k || at2 S.rd n k)) := rfl
  clear hl hs hp hrl hrw
  generalize allRd sh l S n = R at *
  go_enter Tryz.func55, Tryz.ntmps55
  go_upto_region 1 with fail
  generalize ((w.alloc (.cells #[.int .i64 (sh : Int), .slice la l.length lc] 24)).alloc (.cells #[.slice sa S.st.length sc, .slice ra S.rd.length rc, .slice wa S.wr.length tc, .slice va S.vs.length vc] 29)) = W at *
  go_wp2_with fail
  refine CP.out.mono ?_
  rintro e w1 ⟨a, c, rfl, hbs, hb1⟩
  have B1 : Hid (Below w.heap.size w w1) := grow_trans hW.out hb1
  have HB : Hid (IsBools w1 a (marks sh (keysIn (locksAt l n)))) := hbs
  have x0 := ext_cell hb1 p0
  have y1 := ext_cell hb1 q1
  obtain ⟨b4, o4, b5, o5, c5, e4, z4, z5⟩ := (HS.out.below hb1).rd.row (n := n) (by rw [HRL.out]; exact hn) HRW.out h0
  have Z5 : Hid (∀ k, k < sh → w1.cell? ⟨b5, o5 + k, none⟩ = some (.bool (at2 S.rd n k))) := z5
  rw [e4, HRL.out] at y1
  clear CP hbs hb1 p0 p1 q1 z5 e4
  rw [HL.out]
  go_wp2
  go_loop [8] (fun i => ∃ k : Nat, k ≤ sh ∧ i = .int .i64 k ∧ Hid ((List.range k).all (fun k => !ptB sh (gX l n) k || at2 S.rd n k) = true)) (fun i => sh - (intOf i).toNat)
  case atStart => exact ⟨0, Nat.zero_le _, rfl, rfl⟩
  case round =>
    obtain ⟨k, hk, rfl, hall⟩ := hrel
    by_cases hlt : k < sh
    · obtain ⟨b1, o1, ea, _, d1⟩ := HB.out k (by rw [HL.out]; exact hlt)
      subst ea
      rw [HM.out k] at d1
      have d4 := Z5.out k hlt
      have hstep : Hid ((List.range (k + 1)).all (fun k => !ptB sh (gX l n) k || at2 S.rd n k) = (!ptB sh (gX l n) k || at2 S.rd n k)) := by
        show _ = _
        rw [all_to, hall.out, Bool.true_and]
      have hstop : Hid ((!ptB sh (gX l n) k || at2 S.rd n k) = false → R = false) := fun e => by rw [HA.out]; exact all_stop hlt e
      have i1 : (k : Int) < (sh : Int) := by omega
      generalize ptB sh (gX l n) k = P at *
      generalize at2 S.rd n k = Q at *
      clear hall
      cases P
      · go_wp2
        go_round
        case rel => exact ⟨k + 1, by omega, by go_num, by show _ = _; rw [hstep.out]; rfl⟩
        case measure => simp [intOf]; omega
      · cases Q
        · have HR : Hid (R = false) := hstop.out rfl
          clear hstop hstep
          go_wp2
          go_ret
          exact ⟨by rw [HR.out]; rfl, B1.out⟩
        · go_wp2
          go_round
          case rel => exact ⟨k + 1, by omega, by go_num, by show _ = _; rw [hstep.out]; rfl⟩
          case measure => simp [intOf]; omega
    · have hkk : k = sh := by omega
      subst hkk
      have HR : Hid (R = true) := by show _ = _; rw [HA.out]; exact hall.out
      have i1 : ¬ (k : Int) < (k : Int) := by omega
      go_wp2
      go_ret
      exact ⟨by rw [HR.out]; rfl, B1.out⟩

set_option maxRecDepth 100000 in
set_option maxHeartbeats 8000000 in
/-- The document's CheckState, of a right plan. -/
theorem docCheck_ok (sh : Nat) (w : World) (hl : IsTxs w la l) (hs : Sta w sa ra wa va S) (hp : planE sh l = 0) :
    Calls Tryz.prog 19 #[.agg #[.int .i64 (sh : Int), .slice la l.length lc], .agg #[.slice sa S.st.length sc, .slice ra S.rd.length rc, .slice wa S.wr.length tc, .slice va S.vs.length vc]] w fun e w' => e = .returned (.int .i64 (stE sh l S)) ∧ Below w.heap.size w w' := by
  obtain ⟨h1, h4', hc⟩ := planE_zero hp
  have h0 : 0 < sh := by omega
  have h4 : sh ≤ 4 := by omega
  have h8 := chkL_len hc
  have hpn : ∀ a, a < l.length → pnE sh l a = 0 := fun a ha => pnE_in hp ha
  have hW : Hid (Below w.heap.size w ((w.alloc (.cells #[.int .i64 (sh : Int), .slice la l.length lc] 24)).alloc (.cells #[.slice sa S.st.length sc, .slice ra S.rd.length rc, .slice wa S.wr.length tc, .slice va S.vs.length vc] 29))) := grow_alloc (grow_alloc (Below.refl _ _) _) _
  have p0 : ((w.alloc (.cells #[.int .i64 (sh : Int), .slice la l.length lc] 24)).alloc (.cells #[.slice sa S.st.length sc, .slice ra S.rd.length rc, .slice wa S.wr.length tc, .slice va S.vs.length vc] 29)).cell? ⟨w.heap.size, 0, none⟩ = some (.int .i64 (sh : Int)) := ext_cell (grow_alloc (Below.refl _ _) _) (at_new _ _ 24 _ 0 _ (by first | rfl | simp) rfl)
  have p1 : ((w.alloc (.cells #[.int .i64 (sh : Int), .slice la l.length lc] 24)).alloc (.cells #[.slice sa S.st.length sc, .slice ra S.rd.length rc, .slice wa S.wr.length tc, .slice va S.vs.length vc] 29)).cell? ⟨w.heap.size, 1, none⟩ = some (.slice la l.length lc) := ext_cell (grow_alloc (Below.refl _ _) _) (at_new _ _ 24 _ 1 _ (by first | rfl | simp) rfl)
  have q0 : ((w.alloc (.cells #[.int .i64 (sh : Int), .slice la l.length lc] 24)).alloc (.cells #[.slice sa S.st.length sc, .slice ra S.rd.length rc, .slice wa S.wr.length tc, .slice va S.vs.length vc] 29)).cell? ⟨w.heap.size + 1, 0, none⟩ = some (.slice sa S.st.length sc) := ext_cell (Below.refl _ _) (at_new _ _ 29 _ 0 _ (by first | rfl | simp) rfl)
  have q1 : ((w.alloc (.cells #[.int .i64 (sh : Int), .slice la l.length lc] 24)).alloc (.cells #[.slice sa S.st.length sc, .slice ra S.rd.length rc, .slice wa S.wr.length tc, .slice va S.vs.length vc] 29)).cell? ⟨w.heap.size + 1, 1, none⟩ = some (.slice ra S.rd.length rc) := ext_cell (Below.refl _ _) (at_new _ _ 29 _ 1 _ (by first | rfl | simp) rfl)
  have q2 : ((w.alloc (.cells #[.int .i64 (sh : Int), .slice la l.length lc] 24)).alloc (.cells #[.slice sa S.st.length sc, .slice ra S.rd.length rc, .slice wa S.wr.length tc, .slice va S.vs.length vc] 29)).cell? ⟨w.heap.size + 1, 2, none⟩ = some (.slice wa S.wr.length tc) := ext_cell (Below.refl _ _) (at_new _ _ 29 _ 2 _ (by first | rfl | simp) rfl)
  have q3 : ((w.alloc (.cells #[.int .i64 (sh : Int), .slice la l.length lc] 24)).alloc (.cells #[.slice sa S.st.length sc, .slice ra S.rd.length rc, .slice wa S.wr.length tc, .slice va S.vs.length vc] 29)).cell? ⟨w.heap.size + 1, 3, none⟩ = some (.slice va S.vs.length vc) := ext_cell (Below.refl _ _) (at_new _ _ 29 _ 3 _ (by first | rfl | simp) rfl)
  have KEEP : Hid (∀ w', Below ((w.alloc (.cells #[.int .i64 (sh : Int), .slice la l.length lc] 24)).alloc (.cells #[.slice sa S.st.length sc, .slice ra S.rd.length rc, .slice wa S.wr.length tc, .slice va S.vs.length vc] 29)).heap.size ((w.alloc (.cells #[.int .i64 (sh : Int), .slice la l.length lc] 24)).alloc (.cells #[.slice sa S.st.length sc, .slice ra S.rd.length rc, .slice wa S.wr.length tc, .slice va S.vs.length vc] 29)) w' → w'.cell? ⟨w.heap.size, 0, none⟩ = some (.int .i64 (sh : Int)) ∧ w'.cell? ⟨w.heap.size, 1, none⟩ = some (.slice la l.length lc) ∧ w'.cell? ⟨w.heap.size + 1, 0, none⟩ = some (.slice sa S.st.length sc) ∧ w'.cell? ⟨w.heap.size + 1, 1, none⟩ = some (.slice ra S.rd.length rc) ∧ w'.cell? ⟨w.heap.size + 1, 2, none⟩ = some (.slice wa S.wr.length tc) ∧ w'.cell? ⟨w.heap.size + 1, 3, none⟩ = some (.slice va S.vs.length vc)) := fun w' hb => ⟨ext_cell hb p0, ext_cell hb p1, ext_cell hb q0, ext_cell hb q1, ext_cell hb q2, ext_cell hb q3⟩
  have CK : Hid (Calls Tryz.prog 16 #[.agg #[.int .i64 (sh : Int), .slice la l.length lc]] ((w.alloc (.cells #[.int .i64 (sh : Int), .slice la l.length lc] 24)).alloc (.cells #[.slice sa S.st.length sc, .slice ra S.rd.length rc, .slice wa S.wr.length tc, .slice va S.vs.length vc] 29)) fun e w' => e = .returned (.int .i64 0) ∧ Below ((w.alloc (.cells #[.int .i64 (sh : Int), .slice la l.length lc] 24)).alloc (.cells #[.slice sa S.st.length sc, .slice ra S.rd.length rc, .slice wa S.wr.length tc, .slice va S.vs.length vc] 29)).heap.size ((w.alloc (.cells #[.int .i64 (sh : Int), .slice la l.length lc] 24)).alloc (.cells #[.slice sa S.st.length sc, .slice ra S.rd.length rc, .slice wa S.wr.length tc, .slice va S.vs.length vc] 29)) w') := by
    have h := checkPlan_any la lc l sh ((w.alloc (.cells #[.int .i64 (sh : Int), .slice la l.length lc] 24)).alloc (.cells #[.slice sa S.st.length sc, .slice ra S.rd.length rc, .slice wa S.wr.length tc, .slice va S.vs.length vc] 29)) (hl.below hW.out)
    rw [hp] at h
    exact h
  have HS : Hid (Sta ((w.alloc (.cells #[.int .i64 (sh : Int), .slice la l.length lc] 24)).alloc (.cells #[.slice sa S.st.length sc, .slice ra S.rd.length rc, .slice wa S.wr.length tc, .slice va S.vs.length vc] 29)) sa ra wa va S) := hs.below hW.out
  have HL : Hid (IsTxs ((w.alloc (.cells #[.int .i64 (sh : Int), .slice la l.length lc] 24)).alloc (.cells #[.slice sa S.st.length sc, .slice ra S.rd.length rc, .slice wa S.wr.length tc, .slice va S.vs.length vc] 29)) la l) := hl.below hW.out
  have HE : Hid (stE sh l S = if (lens l S && (List.range l.length).all (rowC sh l S)) = true then 0 else 1) := by
    show _ = _
    unfold stE
    rw [if_pos hp]
    show (if (formB sh l S && truthB sh l S) = true then (0 : Int) else 1) = _
    rw [form_rows]
  clear hl hs hp hc h1 h4' p0 p1 q0 q1 q2 q3
  generalize stE sh l S = R at *
  go_enter Tryz.func19, Tryz.ntmps19
  go_upto_region 1 with fail
  generalize ((w.alloc (.cells #[.int .i64 (sh : Int), .slice la l.length lc] 24)).alloc (.cells #[.slice sa S.st.length sc, .slice ra S.rd.length rc, .slice wa S.wr.length tc, .slice va S.vs.length vc] 29)) = W at *
  obtain ⟨p0, p1, q0, q1, q2, q3⟩ := KEEP.out W (Below.refl _ _)
  go_wp2_with fail
  refine CK.out.mono ?_
  rintro e V ⟨rfl, hbV⟩
  have BV : Hid (Below W.heap.size W V) := hbV
  have BF : Hid (Below w.heap.size w V) := grow_trans hW.out hbV
  clear CK hbV p0 p1 q0 q1 q2 q3
  obtain ⟨p0, p1, q0, q1, q2, q3⟩ := KEEP.out V BV.out
  have CI : Hid (∀ w', Calls Tryz.prog 17 #[.slice sa S.st.length sc] w' fun e w'' => e = .returned (.bool (decide (S.st.length = 8))) ∧ w'' = w') := fun w' => isStore_any S.st sa sc w'
  have HL1 : Hid (lens l S = false → R = 1) := fun h => by rw [HE.out, h]; rfl
  go_upto_region 4 with fail
  by_cases g0 : S.st.length = 8
  rotate_left
  · obtain rfl : R = 1 := HL1.out (by unfold lens; rw [decide_eq_false g0]; rfl)
    have CI' : Hid (∀ w', Calls Tryz.prog 17 #[.slice sa S.st.length sc] w' fun e w'' => e = .returned (.bool false) ∧ w'' = w') := by
      have h := CI.out
      rw [decide_eq_false g0] at h
      exact h
    clear CI HE HL1 g0
    go_wp2_with (go_at_call 17; refine (CI'.out _).mono ?_; rintro e w2 ⟨rfl, rfl⟩)
    go_ret
    exact ⟨rfl, BF.out⟩
  have CI' : Hid (∀ w', Calls Tryz.prog 17 #[.slice sa S.st.length sc] w' fun e w'' => e = .returned (.bool true) ∧ w'' = w') := by
    have h := CI.out
    rw [decide_eq_true g0] at h
    exact h
  clear CI
  by_cases g1 : S.rd.length = l.length
  rotate_left
  · obtain rfl : R = 1 := HL1.out (by unfold lens; rw [decide_eq_false g1]; simp)
    have j1 : ((S.rd.length : Int) != (l.length : Int)) = true := by rw [bne_iff_ne]; omega
    clear HE HL1 g0 g1
    go_wp2_with (go_at_call 17; refine (CI'.out _).mono ?_; rintro e w2 ⟨rfl, rfl⟩)
    go_ret
    exact ⟨rfl, BF.out⟩
  by_cases g2 : S.wr.length = l.length
  rotate_left
  · obtain rfl : R = 1 := HL1.out (by unfold lens; rw [decide_eq_false g2]; simp)
    have j1 : ((S.rd.length : Int) != (l.length : Int)) = false := by rw [bne_eq_false_iff_eq]; omega
    have j2 : ((S.wr.length : Int) != (l.length : Int)) = true := by rw [bne_iff_ne]; omega
    clear HE HL1 g0 g1 g2
    go_wp2_with (go_at_call 17; refine (CI'.out _).mono ?_; rintro e w2 ⟨rfl, rfl⟩)
    go_ret
    exact ⟨rfl, BF.out⟩
  by_cases g3 : S.vs.length = l.length
  rotate_left
  · obtain rfl : R = 1 := HL1.out (by unfold lens; rw [decide_eq_false g3]; simp)
    have j1 : ((S.rd.length : Int) != (l.length : Int)) = false := by rw [bne_eq_false_iff_eq]; omega
    have j2 : ((S.wr.length : Int) != (l.length : Int)) = false := by rw [bne_eq_false_iff_eq]; omega
    have j3 : ((S.vs.length : Int) != (l.length : Int)) = true := by rw [bne_iff_ne]; omega
    clear HE HL1 g0 g1 g2 g3
    go_wp2_with (go_at_call 17; refine (CI'.out _).mono ?_; rintro e w2 ⟨rfl, rfl⟩)
    go_ret
    exact ⟨rfl, BF.out⟩
  have j1 : ((S.rd.length : Int) != (l.length : Int)) = false := by rw [bne_eq_false_iff_eq]; omega
  have j2 : ((S.wr.length : Int) != (l.length : Int)) = false := by rw [bne_eq_false_iff_eq]; omega
  have j3 : ((S.vs.length : Int) != (l.length : Int)) = false := by rw [bne_eq_false_iff_eq]; omega
  have HE2 : Hid (R = if (List.range l.length).all (rowC sh l S) = true then 0 else 1) := by
    show _ = _
    rw [HE.out]
    unfold lens
    rw [decide_eq_true g0, decide_eq_true g1, decide_eq_true g2, decide_eq_true g3]
    rfl
  have G1 : Hid (S.rd.length = l.length) := g1
  have G2 : Hid (S.wr.length = l.length) := g2
  have G3 : Hid (S.vs.length = l.length) := g3
  clear HE HL1 g0 g1 g2 g3
  go_upto_region 6 with (go_at_call 17; refine (CI'.out _).mono ?_; rintro e w2 ⟨rfl, rfl⟩)
  clear CI' j1 j2 j3 p0 p1 q0 q1 q2 q3
  go_wp2
  go_loopw [6] (fun i wr => ∃ n : Nat, n ≤ l.length ∧ i = .int .i64 n ∧ Hid ((List.range n).all (rowC sh l S) = true) ∧ Hid (Below W.heap.size W wr)) (fun i _ => l.length - (intOf i).toNat)
  case atStart => exact ⟨0, Nat.zero_le _, rfl, rfl, BV⟩
  case round =>
    clear BV BF
    obtain ⟨n, hn, rfl, hall, BV⟩ := hrel
    obtain ⟨p0, p1, q0, q1, q2, q3⟩ := KEEP.out wr BV.out
    have BF : Hid (Below w.heap.size w wr) := grow_trans hW.out BV.out
    by_cases hlt : n < l.length
    · have i1 : (n : Int) < (l.length : Int) := by omega
      obtain ⟨b1, o1, a1, c1, e1, _, r1, _, _⟩ := (HS.out.below BV.out).rd n (by rw [G1.out]; exact hlt)
      obtain ⟨b2, o2, a2, c2, e2, _, r2, _, _⟩ := (HS.out.below BV.out).wr n (by rw [G2.out]; exact hlt)
      obtain ⟨b3, o3, a3, c3, e3, _, r3, _, _⟩ := (HS.out.below BV.out).vs n (by rw [G3.out]; exact hlt)
      obtain ⟨tb, tof, e5, _, t0', t1, t2, _⟩ := (HL.out.below BV.out) n hlt
      have HST : Hid (rowC sh l S n = false → R = 1) := fun h => by rw [HE2.out, all_stop hlt h]; rfl
      have HNX0 : Hid (rowC sh l S n = true → (List.range (n + 1)).all (rowC sh l S) = true) := fun h => by rw [all_to, hall.out, h]; rfl
      have hRC : Hid (rowC sh l S n = (rowF sh l S n && (List.range sh).all (rowB sh l S n))) := rfl
      have hRF : Hid (rowF sh l S n = (decide ((S.rd.getD n []).length = sh) && decide ((S.wr.getD n []).length = sh) && decide ((S.vs.getD n []).length = (gX l n).rs.length))) := rfl
      have t0 : wr.cell? ⟨tb, tof + n * 3, none⟩ = some (.slice (gX l n).ra (gX l n).rs.length (gX l n).rc) := t0'
      clear t0' t1 t2 hall
      rw [e1, G1.out] at q1
      rw [e2, G2.out] at q2
      rw [e3, G3.out] at q3
      rw [e5] at p1
      obtain ⟨N1, eN1⟩ : ∃ x, (S.rd.getD n []).length = x := ⟨_, rfl⟩
      obtain ⟨N2, eN2⟩ : ∃ x, (S.wr.getD n []).length = x := ⟨_, rfl⟩
      obtain ⟨N3, eN3⟩ : ∃ x, (S.vs.getD n []).length = x := ⟨_, rfl⟩
      obtain ⟨N4, eN4⟩ : ∃ x, (gX l n).rs.length = x := ⟨_, rfl⟩
      rw [eN1] at r1 hRF
      rw [eN2] at r2 hRF
      rw [eN3] at r3 hRF
      rw [eN4] at t0 hRF
      by_cases f1 : N1 = sh
      rotate_left
      · obtain rfl : R = 1 := HST.out (by rw [hRC.out, hRF.out, decide_eq_false f1]; rfl)
        have j1 : ((N1 : Int) != (sh : Int)) = true := by rw [bne_iff_ne]; omega
        have BFN : ∀ N, Hid (Below w.heap.size w (wr.drewN N)) := fun N => drewN_grow BF.out N
        clear HST HNX0 hRC hRF HE2 HS HL G1 G2 G3 KEEP f1 e1 e2 e3 e5 eN1 eN2 eN3 eN4
        go_upto_region 9 with fail
        go_quiet (fail)
        go_wp2
        go_ret
        exact ⟨rfl, (BFN _).out⟩
      by_cases f2 : N2 = sh
      rotate_left
      · obtain rfl : R = 1 := HST.out (by rw [hRC.out, hRF.out, decide_eq_false f2]; simp)
        have j1 : ((N1 : Int) != (sh : Int)) = false := by rw [bne_eq_false_iff_eq]; omega
        have j2 : ((N2 : Int) != (sh : Int)) = true := by rw [bne_iff_ne]; omega
        have BFN : ∀ N, Hid (Below w.heap.size w (wr.drewN N)) := fun N => drewN_grow BF.out N
        clear HST HNX0 hRC hRF HE2 HS HL G1 G2 G3 KEEP f1 f2 e1 e2 e3 e5 eN1 eN2 eN3 eN4
        go_upto_region 9 with fail
        go_quiet (fail)
        go_wp2
        go_ret
        exact ⟨rfl, (BFN _).out⟩
      by_cases f3 : N3 = N4
      rotate_left
      · obtain rfl : R = 1 := HST.out (by rw [hRC.out, hRF.out, decide_eq_false f3]; simp)
        have j1 : ((N1 : Int) != (sh : Int)) = false := by rw [bne_eq_false_iff_eq]; omega
        have j2 : ((N2 : Int) != (sh : Int)) = false := by rw [bne_eq_false_iff_eq]; omega
        have j3 : ((N3 : Int) != (N4 : Int)) = true := by rw [bne_iff_ne]; omega
        have BFN : ∀ N, Hid (Below w.heap.size w (wr.drewN N)) := fun N => drewN_grow BF.out N
        clear HST HNX0 hRC hRF HE2 HS HL G1 G2 G3 KEEP f1 f2 e1 e2 e3 e5 eN1 eN2 eN3 eN4
        go_upto_region 9 with fail
        go_quiet (fail)
        go_wp2
        go_ret
        exact ⟨rfl, (BFN _).out⟩
      rw [f1] at r1
      rw [f2] at r2
      rw [f3] at r3
      have HRC : Hid (rowC sh l S n = (List.range sh).all (rowB sh l S n)) := by
        show _ = _
        rw [hRC.out, hRF.out, decide_eq_true f1, decide_eq_true f2, decide_eq_true f3]
        rfl
      have F1 : Hid ((S.rd.getD n []).length = sh) := eN1.trans f1
      have F2 : Hid ((S.wr.getD n []).length = sh) := eN2.trans f2
      clear hRC hRF f1 f2 f3 eN1 eN2 eN3 eN4
      have CPA : Hid (∀ w1, Below W.heap.size W w1 → Calls Tryz.prog 53 #[.agg #[.int .i64 sh, .slice la l.length lc], .int .i64 n] w1 fun e w' => ∃ a c, e = .returned (.slice a sh c) ∧ Hid (∀ k, k < sh → ∃ b o, a = some ⟨b, o, none⟩ ∧ w'.cell? ⟨b, o + k, none⟩ = some (.bool (ptB sh (gX l n) k))) ∧ Below w1.heap.size w1 w') := fun w1 hb => by
        refine (partOf_any la lc l sh n _ (HL.out.below hb) (hpn n hlt)).mono ?_
        rintro e w2 ⟨a, c, rfl, hbs, hb2⟩
        have hL := marks_len sh (keysIn (locksAt l n))
        refine ⟨a, c, by rw [hL], fun k hk => ?_, hb2⟩
        obtain ⟨b3, o3, ea, _, d3⟩ := hbs k (by rw [hL]; exact hk)
        exact ⟨b3, o3, ea, d3⟩
      have CAA : Hid (∀ w1, Below W.heap.size W w1 → Calls Tryz.prog 54 #[.agg #[.int .i64 sh, .slice la l.length lc], .int .i64 n] w1 fun e w' => ∃ a c, e = .returned (.slice a sh c) ∧ Hid (∀ k, k < sh → ∃ b o, a = some ⟨b, o, none⟩ ∧ w'.cell? ⟨b, o + k, none⟩ = some (.bool (acB sh (gX l n) k))) ∧ Below w1.heap.size w1 w') := fun w1 hb => by
        refine (activeOf_any la lc l sh n _ (HL.out.below hb) (hpn n hlt)).mono ?_
        rintro e w2 ⟨a, c, rfl, hbs, hb2⟩
        have hL := marks_len sh (setsIn (locksAt l n))
        refine ⟨a, c, by rw [hL], fun k hk => ?_, hb2⟩
        obtain ⟨b3, o3, ea, _, d3⟩ := hbs k (by rw [hL]; exact hk)
        exact ⟨b3, o3, ea, d3⟩
      have CAR : Hid (∀ w1, Below W.heap.size W w1 → Calls Tryz.prog 55 #[.agg #[.int .i64 (sh : Int), .slice la l.length lc], .agg #[.slice sa S.st.length sc, .slice ra S.rd.length rc, .slice wa S.wr.length tc, .slice va S.vs.length vc], .int .i64 n] w1 fun e w' => e = .returned (.bool (allRd sh l S n)) ∧ Below w1.heap.size w1 w') := fun w1 hb => docAllRead_row la lc l sa ra wa va sc rc tc vc S sh n w1 (HL.out.below hb) (HS.out.below hb) (hpn n hlt) G1.out F1.out hlt h0 h4 h8
      go_upto_region 9 with fail
      go_quiet (fail)
      go_upto_region 11 with fail
      clear p0 p1 q0 q1 q2 q3 r1 r2 r3 t0 e1 e2 e3 e5 BF
      obtain ⟨V, eV, BV'⟩ : ∃ V, wr.drewN nq = V ∧ Hid (Below W.heap.size W V) := ⟨_, rfl, drewN_grow BV.out _⟩
      rw [eV]
      clear eV BV
      obtain ⟨p0, p1, q0, q1, q2, q3⟩ := KEEP.out V BV'.out
      have KS : Hid (∀ w', Below V.heap.size V w' → w'.cell? ⟨w.heap.size, 0, none⟩ = some (.int .i64 (sh : Int)) ∧ w'.cell? ⟨w.heap.size, 1, none⟩ = some (.slice la l.length lc) ∧ Hid (Below V.heap.size V w')) := fun w' hb => ⟨ext_cell hb p0, ext_cell hb p1, hb⟩
      go_cut [7, 8] (fun u v wx => ∃ a c a' c', u = .slice a sh c ∧ v = .slice a' sh c' ∧ Hid (∀ k, k < sh → ∃ b o, a = some ⟨b, o, none⟩ ∧ wx.cell? ⟨b, o + k, none⟩ = some (.bool (ptB sh (gX l n) k))) ∧ Hid (∀ k, k < sh → ∃ b o, a' = some ⟨b, o, none⟩ ∧ wx.cell? ⟨b, o + k, none⟩ = some (.bool (acB sh (gX l n) k))) ∧ Hid (Below V.heap.size V wx))
      case first =>
        clear p0 p1 q0 q1 q2 q3
        go_region_held3 (fun w' => w'.cell? ⟨w.heap.size, 0, none⟩ = some (.int .i64 (sh : Int)) ∧ w'.cell? ⟨w.heap.size, 1, none⟩ = some (.slice la l.length lc) ∧ Hid (Below V.heap.size V w')) ((refine KS.out _ ?_; go_split_ands; repeat (first | assumption | exact Below.refl _ _ | exact Hid.out (by assumption) | refine grow_drew ?_ | refine grow_alloc ?_ _ | refine grow_trans ?_ (by assumption))))
          (first
            | (go_at_call 53; refine (CPA.out _ (grow_trans BV'.out ?_)).mono ?_; (go_split_ands; repeat (first | assumption | exact Below.refl _ _ | exact Hid.out (by assumption) | refine grow_drew ?_ | refine grow_alloc ?_ _ | refine grow_trans ?_ (by assumption))); rintro e w1 ⟨a1, c1, rfl, hp1, hb1⟩)
            | (go_at_call 54; refine (CAA.out _ (grow_trans BV'.out ?_)).mono ?_; (go_split_ands; repeat (first | assumption | exact Below.refl _ _ | exact Hid.out (by assumption) | refine grow_drew ?_ | refine grow_alloc ?_ _ | refine grow_trans ?_ (by assumption))); rintro e w2 ⟨a2, c2, rfl, hp2, hb2⟩))
        all_goals (go_wp2_with fail; go_meet)
        all_goals (
          go_split_ands
          refine ⟨a1, c1, a2, c2, rfl, rfl, fun k hk => ?_, hp2, Hid.out (by assumption)⟩
          obtain ⟨b, o, e, d⟩ := hp1.out k hk
          exact ⟨b, o, e, ext_cell hb2 d⟩)
      case rest =>
        obtain ⟨a1, c1, a2, c2, rfl, rfl, HP1, HP2, hbc⟩ := hcut
        obtain ⟨V2, hren⟩ : ∃ V2 : World, V2 = wc := ⟨_, rfl⟩
        subst hren
        have BV2 : Hid (Below W.heap.size W V2) := grow_trans BV'.out hbc.out
        have HB0 : Hid (Below V2.heap.size V2 V2) := Below.refl _ _
        clear hbc KS p0 p1 q0 q1 q2 q3 CPA CAA BV'
        go_wp2
        go_loopw [9] (fun i wq => ∃ k : Nat, k ≤ sh ∧ i = .int .i64 k ∧ Hid ((List.range k).all (rowB sh l S n) = true) ∧ Hid (Below V2.heap.size V2 wq)) (fun i _ => sh - (intOf i).toNat)
        case atStart => exact ⟨0, Nat.zero_le _, rfl, rfl, HB0⟩
        case round =>
          clear HB0
          obtain ⟨k, hk, rfl, hall, hB⟩ := hrel
          have BQ : Hid (Below W.heap.size W wr) := grow_trans BV2.out hB.out
          have BF : Hid (Below w.heap.size w wr) := grow_trans hW.out BQ.out
          obtain ⟨p0, p1, q0, q1, q2, q3⟩ := KEEP.out wr BQ.out
          by_cases hlk : k < sh
          · have i3 : (k : Int) < (sh : Int) := by omega
            obtain ⟨b5, o5, ep, d5⟩ := HP1.out k hlk
            obtain ⟨b6, o6, ea, d6⟩ := HP2.out k hlk
            subst ep ea
            have d5' := ext_cell hB.out d5
            have d6' := ext_cell hB.out d6
            clear d5 d6
            obtain ⟨b1, o1, b1', o1', c1', e1, r1, s1⟩ := (HS.out.below BQ.out).rd.row (n := n) (by rw [G1.out]; exact hlt) F1.out h0
            obtain ⟨b2, o2, b2', o2', c2', e2, r2, s2⟩ := (HS.out.below BQ.out).wr.row (n := n) (by rw [G2.out]; exact hlt) F2.out h0
            have r1' := s1 k hlk
            have r2' := s2 k hlk
            clear s1 s2
            have HG : Hid (rowB sh l S n k = ((!at2 S.rd n k || ptB sh (gX l n) k) && (!at2 S.wr n k || (acB sh (gX l n) k && allRd sh l S n)))) := rfl
            have HR1 : Hid (rowB sh l S n k = false → R = 1) := fun h => HST.out (by rw [HRC.out]; exact all_stop hlk h)
            have HNX : Hid (rowB sh l S n k = true → (List.range (k + 1)).all (rowB sh l S n) = true) := fun h => by rw [all_to, hall.out, h]; rfl
            have CAR1 : Hid (Calls Tryz.prog 55 #[.agg #[.int .i64 (sh : Int), .slice la l.length lc], .agg #[.slice sa S.st.length sc, .slice ra S.rd.length rc, .slice wa S.wr.length tc, .slice va S.vs.length vc], .int .i64 n] wr fun e w' => e = .returned (.bool (allRd sh l S n)) ∧ Below wr.heap.size wr w') := CAR.out wr BQ.out
            rw [e1, G1.out] at CAR1 q1
            rw [e2, G2.out] at CAR1 q2
            clear hall HE2 HST HNX0 HRC HS HL KEEP CAR G3 F1 F2 e1 e2 HP1 HP2
            generalize rowB sh l S n k = G at *
            generalize ptB sh (gX l n) k = P at *
            generalize at2 S.rd n k = Q at *
            generalize acB sh (gX l n) k = T at *
            generalize at2 S.wr n k = U at *
            generalize allRd sh l S n = AA at *
            by_cases hQP : Q = true ∧ P = false
            · obtain ⟨rfl, rfl⟩ := hQP
              obtain rfl : R = 1 := HR1.out HG.out
              clear HG HR1 HNX
              go_wp2
              go_ret
              exact ⟨rfl, BF.out⟩
            · have hPQ : (!Q || P) = true := by cases Q <;> cases P <;> simp_all
              have HG2 : Hid (G = (!U || (T && AA))) := by show _ = _; rw [HG.out, hPQ, Bool.true_and]
              clear HG
              have hcase : (Q = false) ∨ (Q = true ∧ P = true) := by cases Q <;> cases P <;> simp_all
              clear hQP hPQ
              rcases hcase with rfl | ⟨rfl, rfl⟩
              all_goals (
                cases U with
                | false =>
                  have hal := HNX.out HG2.out
                  clear HR1 HNX HG2
                  go_wp2
                  go_roundw
                  case rel => exact ⟨k + 1, by omega, by go_num, hal, hB⟩
                  case measure => simp [intOf]; omega
                | true =>
                  cases T with
                  | false =>
                    obtain rfl : R = 1 := HR1.out HG2.out
                    clear HR1 HNX HG2
                    go_wp2
                    go_ret
                    exact ⟨rfl, BF.out⟩
                  | true =>
                    go_wp2_with fail
                    refine CAR1.out.mono ?_
                    rintro e w3 ⟨rfl, hb3⟩
                    have hB3 : Hid (Below V2.heap.size V2 w3) := grow_trans hB.out hb3
                    have BF3 : Hid (Below w.heap.size w w3) := grow_trans BF.out hb3
                    clear hb3 CAR1 d5' d6' r1 r2 r1' r2' p0 p1 q0 q1 q2 q3 hB BF BQ
                    cases AA with
                    | true =>
                      have hal := HNX.out HG2.out
                      clear HR1 HNX HG2
                      go_wp2
                      go_roundw
                      case rel => exact ⟨k + 1, by omega, by go_num, hal, hB3⟩
                      case measure => simp [intOf]; omega
                    | false =>
                      obtain rfl : R = 1 := HR1.out HG2.out
                      clear HR1 HNX HG2
                      go_wp2
                      go_ret
                      exact ⟨rfl, BF3.out⟩)
          · have hkk : k = sh := by omega
            have hal : Hid ((List.range (n + 1)).all (rowC sh l S) = true) := HNX0.out (by rw [HRC.out]; have h := hall.out; rw [hkk] at h; exact h)
            have i3 : ¬ (k : Int) < (sh : Int) := by omega
            go_wp2
            go_roundw
            case rel => exact ⟨n + 1, by omega, by go_num, hal, BQ⟩
            case measure => simp [intOf]; omega
    · have hnn : n = l.length := by omega
      have hal := hall.out
      rw [hnn] at hal
      obtain rfl : R = 0 := by rw [HE2.out, hal]; rfl
      have i1 : ¬ (n : Int) < (l.length : Int) := by omega
      go_wp2
      go_ret
      exact ⟨rfl, BF.out⟩

set_option maxRecDepth 100000 in
set_option maxHeartbeats 2000000 in
/-- The document's CheckState. -/
theorem docCheck_any (m : Int) (w : World) (hl : IsTxs w la l) (hs : Sta w sa ra wa va S) :
    Calls Tryz.prog 19 #[.agg #[.int .i64 m, .slice la l.length lc], .agg #[.slice sa S.st.length sc, .slice ra S.rd.length rc, .slice wa S.wr.length tc, .slice va S.vs.length vc]] w fun e w' => e = .returned (.int .i64 (stE m l S)) ∧ Below w.heap.size w w' := by
  by_cases hp : planE m l = 0
  · obtain ⟨h1, _, _⟩ := planE_zero hp
    obtain ⟨sh, rfl⟩ : ∃ sh : Nat, m = sh := ⟨m.toNat, by omega⟩
    exact docCheck_ok la lc l sa ra wa va sc rc tc vc S sh w hl hs hp
  · have e0 : stE m l S = planE m l := if_neg hp
    rw [e0]
    have hW : Hid (Below w.heap.size w ((w.alloc (.cells #[.int .i64 m, .slice la l.length lc] 24)).alloc (.cells #[.slice sa S.st.length sc, .slice ra S.rd.length rc, .slice wa S.wr.length tc, .slice va S.vs.length vc] 29))) := grow_alloc (grow_alloc (Below.refl _ _) _) _
    have p0 : ((w.alloc (.cells #[.int .i64 m, .slice la l.length lc] 24)).alloc (.cells #[.slice sa S.st.length sc, .slice ra S.rd.length rc, .slice wa S.wr.length tc, .slice va S.vs.length vc] 29)).cell? ⟨w.heap.size, 0, none⟩ = some (.int .i64 m) := ext_cell (grow_alloc (Below.refl _ _) _) (at_new w _ 24 _ 0 _ rfl rfl)
    have p1 : ((w.alloc (.cells #[.int .i64 m, .slice la l.length lc] 24)).alloc (.cells #[.slice sa S.st.length sc, .slice ra S.rd.length rc, .slice wa S.wr.length tc, .slice va S.vs.length vc] 29)).cell? ⟨w.heap.size, 1, none⟩ = some (.slice la l.length lc) := ext_cell (grow_alloc (Below.refl _ _) _) (at_new w _ 24 _ 1 _ rfl rfl)
    have CK : Hid (Calls Tryz.prog 16 #[.agg #[.int .i64 m, .slice la l.length lc]] ((w.alloc (.cells #[.int .i64 m, .slice la l.length lc] 24)).alloc (.cells #[.slice sa S.st.length sc, .slice ra S.rd.length rc, .slice wa S.wr.length tc, .slice va S.vs.length vc] 29)) fun e w' => e = .returned (.int .i64 (planE m l)) ∧ Below ((w.alloc (.cells #[.int .i64 m, .slice la l.length lc] 24)).alloc (.cells #[.slice sa S.st.length sc, .slice ra S.rd.length rc, .slice wa S.wr.length tc, .slice va S.vs.length vc] 29)).heap.size ((w.alloc (.cells #[.int .i64 m, .slice la l.length lc] 24)).alloc (.cells #[.slice sa S.st.length sc, .slice ra S.rd.length rc, .slice wa S.wr.length tc, .slice va S.vs.length vc] 29)) w') := checkPlan_any la lc l m ((w.alloc (.cells #[.int .i64 m, .slice la l.length lc] 24)).alloc (.cells #[.slice sa S.st.length sc, .slice ra S.rd.length rc, .slice wa S.wr.length tc, .slice va S.vs.length vc] 29)) (hl.below hW.out)
    have hne : (planE m l != 0) = true := by simpa using hp
    clear hl hs e0 hp
    generalize planE m l = E at *
    go_enter Tryz.func19, Tryz.ntmps19
    go_upto_region 1 with fail
    generalize ((w.alloc (.cells #[.int .i64 m, .slice la l.length lc] 24)).alloc (.cells #[.slice sa S.st.length sc, .slice ra S.rd.length rc, .slice wa S.wr.length tc, .slice va S.vs.length vc] 29)) = W at *
    go_wp2_with fail
    refine CK.out.mono ?_
    rintro e V ⟨rfl, hbV⟩
    have BF : Hid (Below w.heap.size w V) := grow_trans hW.out hbV
    clear CK hbV p0 p1
    go_wp2
    go_ret
    exact ⟨rfl, BF.out⟩
end Go.Proofs.YtebjkmknhpgemaaGreat

namespace Go.Proofs.YtebjkmknhpgemaaGreat
open Go.RowKit

theorem sameInts_eq (zs : List Int) (a a' : Option Addr) (c c' : Nat) (w : World) (hl : zs.length ≤ 100) (h1 : IsInts w a zs) (h2 : IsInts w a' zs) :
    Calls Tryz.prog 37 #[.slice a zs.length c, .slice a' zs.length c'] w fun e w' => e = .returned (.bool true) ∧ Below w.heap.size w w' := by
  refine (sameInts_any zs zs a a' c c' w (by unfold maxLen; omega) h1 h2).mono ?_
  rintro e w' ⟨rfl, hb⟩
  exact ⟨by simp, hb⟩
variable (sa ra wa va sa' ra' wa' va' : Option Addr) (sc rc tc vc sc' rc' tc' vc' : Nat) (S : SA)
set_option maxRecDepth 100000 in
set_option maxHeartbeats 4000000 in
/-- Two states that are the same are found the same. -/
theorem sameStates_eq (w : World) (hs : Sta w sa ra wa va S) (ht : Sta w sa' ra' wa' va' S) (h8 : S.st.length ≤ 100) (hr : S.rd.length ≤ 100) (hw : S.wr.length ≤ 100) (hv : S.vs.length ≤ 100) (hb : ∀ i, (S.rd.getD i []).length ≤ 100 ∧ (S.wr.getD i []).length ≤ 100 ∧ (S.vs.getD i []).length ≤ 100) :
    Calls Tryz.prog 21 #[.agg #[.slice sa S.st.length sc, .slice ra S.rd.length rc, .slice wa S.wr.length tc, .slice va S.vs.length vc], .agg #[.slice sa' S.st.length sc', .slice ra' S.rd.length rc', .slice wa' S.wr.length tc', .slice va' S.vs.length vc']] w fun e w' => e = .returned (.bool true) ∧ Below w.heap.size w w' := by
  have hW : Hid (Below w.heap.size w ((w.alloc (.cells #[.slice sa S.st.length sc, .slice ra S.rd.length rc, .slice wa S.wr.length tc, .slice va S.vs.length vc] 29)).alloc (.cells #[.slice sa' S.st.length sc', .slice ra' S.rd.length rc', .slice wa' S.wr.length tc', .slice va' S.vs.length vc'] 29))) := grow_alloc (grow_alloc (Below.refl _ _) _) _
  have x0 : ((w.alloc (.cells #[.slice sa S.st.length sc, .slice ra S.rd.length rc, .slice wa S.wr.length tc, .slice va S.vs.length vc] 29)).alloc (.cells #[.slice sa' S.st.length sc', .slice ra' S.rd.length rc', .slice wa' S.wr.length tc', .slice va' S.vs.length vc'] 29)).cell? ⟨w.heap.size, 0, none⟩ = some (.slice sa S.st.length sc) := ext_cell (grow_alloc (Below.refl _ _) _) (at_new _ _ 29 _ 0 _ rfl rfl)
  have x1 : ((w.alloc (.cells #[.slice sa S.st.length sc, .slice ra S.rd.length rc, .slice wa S.wr.length tc, .slice va S.vs.length vc] 29)).alloc (.cells #[.slice sa' S.st.length sc', .slice ra' S.rd.length rc', .slice wa' S.wr.length tc', .slice va' S.vs.length vc'] 29)).cell? ⟨w.heap.size, 1, none⟩ = some (.slice ra S.rd.length rc) := ext_cell (grow_alloc (Below.refl _ _) _) (at_new _ _ 29 _ 1 _ rfl rfl)
  have x2 : ((w.alloc (.cells #[.slice sa S.st.length sc, .slice ra S.rd.length rc, .slice wa S.wr.length tc, .slice va S.vs.length vc] 29)).alloc (.cells #[.slice sa' S.st.length sc', .slice ra' S.rd.length rc', .slice wa' S.wr.length tc', .slice va' S.vs.length vc'] 29)).cell? ⟨w.heap.size, 2, none⟩ = some (.slice wa S.wr.length tc) := ext_cell (grow_alloc (Below.refl _ _) _) (at_new _ _ 29 _ 2 _ rfl rfl)
  have x3 : ((w.alloc (.cells #[.slice sa S.st.length sc, .slice ra S.rd.length rc, .slice wa S.wr.length tc, .slice va S.vs.length vc] 29)).alloc (.cells #[.slice sa' S.st.length sc', .slice ra' S.rd.length rc', .slice wa' S.wr.length tc', .slice va' S.vs.length vc'] 29)).cell? ⟨w.heap.size, 3, none⟩ = some (.slice va S.vs.length vc) := ext_cell (grow_alloc (Below.refl _ _) _) (at_new _ _ 29 _ 3 _ rfl rfl)
  have y0 : ((w.alloc (.cells #[.slice sa S.st.length sc, .slice ra S.rd.length rc, .slice wa S.wr.length tc, .slice va S.vs.length vc] 29)).alloc (.cells #[.slice sa' S.st.length sc', .slice ra' S.rd.length rc', .slice wa' S.wr.length tc', .slice va' S.vs.length vc'] 29)).cell? ⟨w.heap.size + 1, 0, none⟩ = some (.slice sa' S.st.length sc') := at_new _ _ 29 _ 0 _ (by simp) rfl
  have y1 : ((w.alloc (.cells #[.slice sa S.st.length sc, .slice ra S.rd.length rc, .slice wa S.wr.length tc, .slice va S.vs.length vc] 29)).alloc (.cells #[.slice sa' S.st.length sc', .slice ra' S.rd.length rc', .slice wa' S.wr.length tc', .slice va' S.vs.length vc'] 29)).cell? ⟨w.heap.size + 1, 1, none⟩ = some (.slice ra' S.rd.length rc') := at_new _ _ 29 _ 1 _ (by simp) rfl
  have y2 : ((w.alloc (.cells #[.slice sa S.st.length sc, .slice ra S.rd.length rc, .slice wa S.wr.length tc, .slice va S.vs.length vc] 29)).alloc (.cells #[.slice sa' S.st.length sc', .slice ra' S.rd.length rc', .slice wa' S.wr.length tc', .slice va' S.vs.length vc'] 29)).cell? ⟨w.heap.size + 1, 2, none⟩ = some (.slice wa' S.wr.length tc') := at_new _ _ 29 _ 2 _ (by simp) rfl
  have y3 : ((w.alloc (.cells #[.slice sa S.st.length sc, .slice ra S.rd.length rc, .slice wa S.wr.length tc, .slice va S.vs.length vc] 29)).alloc (.cells #[.slice sa' S.st.length sc', .slice ra' S.rd.length rc', .slice wa' S.wr.length tc', .slice va' S.vs.length vc'] 29)).cell? ⟨w.heap.size + 1, 3, none⟩ = some (.slice va' S.vs.length vc') := at_new _ _ 29 _ 3 _ (by simp) rfl
  have KEEP : Hid (∀ w', Below ((w.alloc (.cells #[.slice sa S.st.length sc, .slice ra S.rd.length rc, .slice wa S.wr.length tc, .slice va S.vs.length vc] 29)).alloc (.cells #[.slice sa' S.st.length sc', .slice ra' S.rd.length rc', .slice wa' S.wr.length tc', .slice va' S.vs.length vc'] 29)).heap.size ((w.alloc (.cells #[.slice sa S.st.length sc, .slice ra S.rd.length rc, .slice wa S.wr.length tc, .slice va S.vs.length vc] 29)).alloc (.cells #[.slice sa' S.st.length sc', .slice ra' S.rd.length rc', .slice wa' S.wr.length tc', .slice va' S.vs.length vc'] 29)) w' → w'.cell? ⟨w.heap.size, 0, none⟩ = some (.slice sa S.st.length sc) ∧ w'.cell? ⟨w.heap.size, 1, none⟩ = some (.slice ra S.rd.length rc) ∧ w'.cell? ⟨w.heap.size, 2, none⟩ = some (.slice wa S.wr.length tc) ∧ w'.cell? ⟨w.heap.size, 3, none⟩ = some (.slice va S.vs.length vc) ∧ w'.cell? ⟨w.heap.size + 1, 0, none⟩ = some (.slice sa' S.st.length sc') ∧ w'.cell? ⟨w.heap.size + 1, 1, none⟩ = some (.slice ra' S.rd.length rc') ∧ w'.cell? ⟨w.heap.size + 1, 2, none⟩ = some (.slice wa' S.wr.length tc') ∧ w'.cell? ⟨w.heap.size + 1, 3, none⟩ = some (.slice va' S.vs.length vc')) := fun w' hb => ⟨ext_cell hb x0, ext_cell hb x1, ext_cell hb x2, ext_cell hb x3, ext_cell hb y0, ext_cell hb y1, ext_cell hb y2, ext_cell hb y3⟩
  have HS : Hid (Sta ((w.alloc (.cells #[.slice sa S.st.length sc, .slice ra S.rd.length rc, .slice wa S.wr.length tc, .slice va S.vs.length vc] 29)).alloc (.cells #[.slice sa' S.st.length sc', .slice ra' S.rd.length rc', .slice wa' S.wr.length tc', .slice va' S.vs.length vc'] 29)) sa ra wa va S) := hs.below hW.out
  have HT : Hid (Sta ((w.alloc (.cells #[.slice sa S.st.length sc, .slice ra S.rd.length rc, .slice wa S.wr.length tc, .slice va S.vs.length vc] 29)).alloc (.cells #[.slice sa' S.st.length sc', .slice ra' S.rd.length rc', .slice wa' S.wr.length tc', .slice va' S.vs.length vc'] 29)) sa' ra' wa' va' S) := ht.below hW.out
  have HB : Hid (∀ i (_n : Nat), (S.rd.getD i []).length ≤ 100 ∧ (S.wr.getD i []).length ≤ 100 ∧ (S.vs.getD i []).length ≤ 100) := fun i _ => hb i
  clear hs ht hb x0 x1 x2 x3 y0 y1 y2 y3
  go_enter Tryz.func21, Tryz.ntmps21
  go_upto_region 1 with fail
  generalize ((w.alloc (.cells #[.slice sa S.st.length sc, .slice ra S.rd.length rc, .slice wa S.wr.length tc, .slice va S.vs.length vc] 29)).alloc (.cells #[.slice sa' S.st.length sc', .slice ra' S.rd.length rc', .slice wa' S.wr.length tc', .slice va' S.vs.length vc'] 29)) = W at *
  obtain ⟨x0, x1, x2, x3, y0, y1, y2, y3⟩ := KEEP.out W (Below.refl _ _)
  go_wp2_with fail
  refine (sameInts_eq S.st sa sa' sc sc' _ h8 HS.out.st HT.out.st).mono ?_
  rintro e w0 ⟨rfl, hb0⟩
  have ATS : Hid (Below W.heap.size W w0) := hb0
  clear hb0 x0 x1 x2 x3 y0 y1 y2 y3
  obtain ⟨x0, x1, x2, x3, y0, y1, y2, y3⟩ := KEEP.out w0 ATS.out
  have b1 : ((S.rd.length : Int) != (S.rd.length : Int)) = false := by simp
  have b2 : ((S.wr.length : Int) != (S.wr.length : Int)) = false := by simp
  have b3 : ((S.vs.length : Int) != (S.vs.length : Int)) = false := by simp
  go_wp2
  clear x0 x1 x2 x3 y0 y1 y2 y3 b1 b2 b3
  go_loopw [5] (fun v wr => ∃ i : Nat, i ≤ S.rd.length ∧ v = .int .i64 i ∧ Hid (Below W.heap.size W wr)) (fun v _ => S.rd.length - (intOf v).toNat)
  case atStart => exact ⟨0, Nat.zero_le _, rfl, ATS⟩
  case round =>
    obtain ⟨i, hi, rfl, hB⟩ := hrel
    by_cases hlt : i < S.rd.length
    · have i1 : (i : Int) < (S.rd.length : Int) := by omega
      obtain ⟨x0, x1, x2, x3, y0, y1, y2, y3⟩ := KEEP.out wr hB.out
      obtain ⟨b, off, a0, c0, e, _, z0, zi, _⟩ := (HS.out.below hB.out).rd i hlt
      obtain ⟨b2, off2, a1, c1, e', _, z1, zi', _⟩ := (HT.out.below hB.out).rd i hlt
      rw [e] at x1
      rw [e'] at y1
      have CL : Hid (∀ w', Below wr.heap.size wr w' → Calls Tryz.prog 58 #[.slice a0 (S.rd.getD i []).length c0, .slice a1 (S.rd.getD i []).length c1] w' fun e w'' => e = .returned (.bool true) ∧ Below w'.heap.size w' w'') := fun w' hb => sameBools_eq (S.rd.getD i []) a0 a1 c0 c1 w' (HB.out i 0).1 (zi.below hb) (zi'.below hb)
      generalize S.rd.getD i [] = row at *
      clear e e' zi zi' x0 x2 x3 y0 y2 y3
      have KS : Hid (∀ w', Below wr.heap.size wr w' → w'.cell? ⟨w.heap.size, 1, none⟩ = some (.slice (some ⟨b, off, none⟩) S.rd.length rc) ∧ w'.cell? ⟨w.heap.size + 1, 1, none⟩ = some (.slice (some ⟨b2, off2, none⟩) S.rd.length rc') ∧ w'.cell? ⟨b, off + i, none⟩ = some (.slice a0 row.length c0) ∧ w'.cell? ⟨b2, off2 + i, none⟩ = some (.slice a1 row.length c1) ∧ Hid (Below wr.heap.size wr w')) := fun w' hb => ⟨ext_cell hb x1, ext_cell hb y1, ext_cell hb z0, ext_cell hb z1, hb⟩
      go_upto_region 6 with fail
      go_region_held3 (fun w' => w'.cell? ⟨w.heap.size, 1, none⟩ = some (.slice (some ⟨b, off, none⟩) S.rd.length rc) ∧ w'.cell? ⟨w.heap.size + 1, 1, none⟩ = some (.slice (some ⟨b2, off2, none⟩) S.rd.length rc') ∧ w'.cell? ⟨b, off + i, none⟩ = some (.slice a0 row.length c0) ∧ w'.cell? ⟨b2, off2 + i, none⟩ = some (.slice a1 row.length c1) ∧ Hid (Below wr.heap.size wr w')) ((refine KS.out _ ?_; go_split_ands; repeat (first | assumption | exact Below.refl _ _ | exact Hid.out (by assumption) | refine grow_drew ?_ | refine grow_alloc ?_ _ | refine grow_trans ?_ (by assumption))))
        (first
          | (go_at_call 58; refine (CL.out _ ?_).mono ?_; (go_split_ands; repeat (first | assumption | exact Below.refl _ _ | exact Hid.out (by assumption) | refine grow_drew ?_ | refine grow_alloc ?_ _ | refine grow_trans ?_ (by assumption))); rintro e w1 ⟨rfl, hb1⟩))
      all_goals (
        go_split_ands
        have B1 : Hid (Below W.heap.size W w1) := grow_trans hB.out (Hid.out (by assumption))
        go_wp2
        go_roundw
        case rel => exact ⟨i + 1, by omega, by go_num, B1⟩
        case measure => simp [intOf]; omega)
    · have i1 : ¬ (i : Int) < (S.rd.length : Int) := by omega
      obtain ⟨x0, x1, x2, x3, y0, y1, y2, y3⟩ := KEEP.out wr hB.out
      clear ATS
      have ATS : Hid (Below W.heap.size W wr) := hB
      clear hB hlt hi
      go_wp2
      clear i1 x0 x1 x2 x3 y0 y1 y2 y3
      go_loopw [6] (fun v wr => ∃ i : Nat, i ≤ S.wr.length ∧ v = .int .i64 i ∧ Hid (Below W.heap.size W wr)) (fun v _ => S.wr.length - (intOf v).toNat)
      case atStart => exact ⟨0, Nat.zero_le _, rfl, ATS⟩
      case round =>
        obtain ⟨i, hi, rfl, hB⟩ := hrel
        by_cases hlt : i < S.wr.length
        · have i1 : (i : Int) < (S.wr.length : Int) := by omega
          obtain ⟨x0, x1, x2, x3, y0, y1, y2, y3⟩ := KEEP.out wr hB.out
          obtain ⟨b, off, a0, c0, e, _, z0, zi, _⟩ := (HS.out.below hB.out).wr i hlt
          obtain ⟨b2, off2, a1, c1, e', _, z1, zi', _⟩ := (HT.out.below hB.out).wr i hlt
          rw [e] at x2
          rw [e'] at y2
          have CL : Hid (∀ w', Below wr.heap.size wr w' → Calls Tryz.prog 58 #[.slice a0 (S.wr.getD i []).length c0, .slice a1 (S.wr.getD i []).length c1] w' fun e w'' => e = .returned (.bool true) ∧ Below w'.heap.size w' w'') := fun w' hb => sameBools_eq (S.wr.getD i []) a0 a1 c0 c1 w' (HB.out i 0).2.1 (zi.below hb) (zi'.below hb)
          generalize S.wr.getD i [] = row at *
          clear e e' zi zi' x0 x1 x3 y0 y1 y3
          have KS : Hid (∀ w', Below wr.heap.size wr w' → w'.cell? ⟨w.heap.size, 2, none⟩ = some (.slice (some ⟨b, off, none⟩) S.wr.length tc) ∧ w'.cell? ⟨w.heap.size + 1, 2, none⟩ = some (.slice (some ⟨b2, off2, none⟩) S.wr.length tc') ∧ w'.cell? ⟨b, off + i, none⟩ = some (.slice a0 row.length c0) ∧ w'.cell? ⟨b2, off2 + i, none⟩ = some (.slice a1 row.length c1) ∧ Hid (Below wr.heap.size wr w')) := fun w' hb => ⟨ext_cell hb x2, ext_cell hb y2, ext_cell hb z0, ext_cell hb z1, hb⟩
          go_upto_region 11 with fail
          go_region_held3 (fun w' => w'.cell? ⟨w.heap.size, 2, none⟩ = some (.slice (some ⟨b, off, none⟩) S.wr.length tc) ∧ w'.cell? ⟨w.heap.size + 1, 2, none⟩ = some (.slice (some ⟨b2, off2, none⟩) S.wr.length tc') ∧ w'.cell? ⟨b, off + i, none⟩ = some (.slice a0 row.length c0) ∧ w'.cell? ⟨b2, off2 + i, none⟩ = some (.slice a1 row.length c1) ∧ Hid (Below wr.heap.size wr w')) ((refine KS.out _ ?_; go_split_ands; repeat (first | assumption | exact Below.refl _ _ | exact Hid.out (by assumption) | refine grow_drew ?_ | refine grow_alloc ?_ _ | refine grow_trans ?_ (by assumption))))
            (first
              | (go_at_call 58; refine (CL.out _ ?_).mono ?_; (go_split_ands; repeat (first | assumption | exact Below.refl _ _ | exact Hid.out (by assumption) | refine grow_drew ?_ | refine grow_alloc ?_ _ | refine grow_trans ?_ (by assumption))); rintro e w1 ⟨rfl, hb1⟩))
          all_goals (
            go_split_ands
            have B1 : Hid (Below W.heap.size W w1) := grow_trans hB.out (Hid.out (by assumption))
            go_wp2
            go_roundw
            case rel => exact ⟨i + 1, by omega, by go_num, B1⟩
            case measure => simp [intOf]; omega)
        · have i1 : ¬ (i : Int) < (S.wr.length : Int) := by omega
          obtain ⟨x0, x1, x2, x3, y0, y1, y2, y3⟩ := KEEP.out wr hB.out
          clear ATS
          have ATS : Hid (Below W.heap.size W wr) := hB
          clear hB hlt hi
          go_wp2
          clear i1 x0 x1 x2 x3 y0 y1 y2 y3
          go_loopw [7] (fun v wr => ∃ i : Nat, i ≤ S.vs.length ∧ v = .int .i64 i ∧ Hid (Below W.heap.size W wr)) (fun v _ => S.vs.length - (intOf v).toNat)
          case atStart => exact ⟨0, Nat.zero_le _, rfl, ATS⟩
          case round =>
            obtain ⟨i, hi, rfl, hB⟩ := hrel
            by_cases hlt : i < S.vs.length
            · have i1 : (i : Int) < (S.vs.length : Int) := by omega
              obtain ⟨x0, x1, x2, x3, y0, y1, y2, y3⟩ := KEEP.out wr hB.out
              obtain ⟨b, off, a0, c0, e, _, z0, zi, _⟩ := (HS.out.below hB.out).vs i hlt
              obtain ⟨b2, off2, a1, c1, e', _, z1, zi', _⟩ := (HT.out.below hB.out).vs i hlt
              rw [e] at x3
              rw [e'] at y3
              have CL : Hid (∀ w', Below wr.heap.size wr w' → Calls Tryz.prog 37 #[.slice a0 (S.vs.getD i []).length c0, .slice a1 (S.vs.getD i []).length c1] w' fun e w'' => e = .returned (.bool true) ∧ Below w'.heap.size w' w'') := fun w' hb => sameInts_eq (S.vs.getD i []) a0 a1 c0 c1 w' (HB.out i 0).2.2 (zi.below hb) (zi'.below hb)
              generalize S.vs.getD i [] = row at *
              clear e e' zi zi' x0 x1 x2 y0 y1 y2
              have KS : Hid (∀ w', Below wr.heap.size wr w' → w'.cell? ⟨w.heap.size, 3, none⟩ = some (.slice (some ⟨b, off, none⟩) S.vs.length vc) ∧ w'.cell? ⟨w.heap.size + 1, 3, none⟩ = some (.slice (some ⟨b2, off2, none⟩) S.vs.length vc') ∧ w'.cell? ⟨b, off + i, none⟩ = some (.slice a0 row.length c0) ∧ w'.cell? ⟨b2, off2 + i, none⟩ = some (.slice a1 row.length c1) ∧ Hid (Below wr.heap.size wr w')) := fun w' hb => ⟨ext_cell hb x3, ext_cell hb y3, ext_cell hb z0, ext_cell hb z1, hb⟩
              go_upto_region 16 with fail
              go_region_held3 (fun w' => w'.cell? ⟨w.heap.size, 3, none⟩ = some (.slice (some ⟨b, off, none⟩) S.vs.length vc) ∧ w'.cell? ⟨w.heap.size + 1, 3, none⟩ = some (.slice (some ⟨b2, off2, none⟩) S.vs.length vc') ∧ w'.cell? ⟨b, off + i, none⟩ = some (.slice a0 row.length c0) ∧ w'.cell? ⟨b2, off2 + i, none⟩ = some (.slice a1 row.length c1) ∧ Hid (Below wr.heap.size wr w')) ((refine KS.out _ ?_; go_split_ands; repeat (first | assumption | exact Below.refl _ _ | exact Hid.out (by assumption) | refine grow_drew ?_ | refine grow_alloc ?_ _ | refine grow_trans ?_ (by assumption))))
                (first
                  | (go_at_call 37; refine (CL.out _ ?_).mono ?_; (go_split_ands; repeat (first | assumption | exact Below.refl _ _ | exact Hid.out (by assumption) | refine grow_drew ?_ | refine grow_alloc ?_ _ | refine grow_trans ?_ (by assumption))); rintro e w1 ⟨rfl, hb1⟩))
              all_goals (
                go_split_ands
                have B1 : Hid (Below W.heap.size W w1) := grow_trans hB.out (Hid.out (by assumption))
                go_wp2
                go_roundw
                case rel => exact ⟨i + 1, by omega, by go_num, B1⟩
                case measure => simp [intOf]; omega)
            · have i1 : ¬ (i : Int) < (S.vs.length : Int) := by omega
              obtain ⟨x0, x1, x2, x3, y0, y1, y2, y3⟩ := KEEP.out wr hB.out
              have BF : Hid (Below w.heap.size w wr) := grow_trans hW.out hB.out
              go_wp2
              go_ret
              exact ⟨rfl, BF.out⟩
end Go.Proofs.YtebjkmknhpgemaaGreat

namespace Go.Proofs.YtebjkmknhpgemaaGreat

/-- One that can be done is done. -/
theorem can_do0 {m : Int} {l : List TxA} {S : SA} (h : stE m l S = 0) {x : Nat × Nat × Nat} (hx : x ∈ canE m l S) : doE m l S x.1 x.2.1 x.2.2 = 0 := by
  have e1 : doE m l S x.1 x.2.1 x.2.2 = stepE m.toNat l S x.1 x.2.1 x.2.2 := if_pos h
  have e2 : canE m l S = canL m.toNat l S := if_pos h
  rw [e2] at hx
  rw [e1]
  have := can_any m.toNat l S x.1 x.2.1 x.2.2
  have ha : (canL m.toNat l S).any (fun y => (y.1 : Int) == x.1 && (y.2.1 : Int) == x.2.1 && (y.2.2 : Int) == x.2.2) = true := List.any_eq_true.2 ⟨x, hx, by simp⟩
  rw [ha] at this
  exact of_decide_eq_true this.symm
theorem do_is {m : Int} {l : List TxA} {S : SA} {x : Nat × Nat × Nat} (h : doE m l S x.1 x.2.1 x.2.2 = 0) : doS m l S x.1 x.2.1 x.2.2 = doX m.toNat l S x.1 x.2.1 x.2.2 := by
  unfold doS
  rw [if_pos h]
  simp
theorem can_after {m : Int} {l : List TxA} {S : SA} (h : stE m l S = 0) {x y : Nat × Nat × Nat} (hx : x ∈ canE m l S) (hy : y ∈ canE m l S) (hne : x ≠ y) : doE m l (doS m l S x.1 x.2.1 x.2.2) y.1 y.2.1 y.2.2 = 0 := by
  have h1 := do_st h (can_do0 h hx)
  refine can_do0 h1 ?_
  have e2 : canE m l S = canL m.toNat l S := if_pos h
  have e3 : canE m l (doS m l S x.1 x.2.1 x.2.2) = canL m.toNat l (doS m l S x.1 x.2.1 x.2.2) := if_pos h1
  rw [e3, do_is (can_do0 h hx)]
  rw [e2] at hx hy
  obtain ⟨a1, a2, a3, a4⟩ := canL_mem.1 hx
  obtain ⟨b1, b2, b3, b4⟩ := canL_mem.1 hy
  obtain ⟨sh, rfl, _, _, _, _, hf, _⟩ := stE_zero h
  refine canL_mem.2 ⟨b1, b2, b3, still (formB_iff.1 hf) a1 b1 a2 a3 b4 fun e => hne ?_⟩
  exact Prod.ext e.1 (Prod.ext e.2.1 e.2.2)
theorem can_comm {m : Int} {l : List TxA} {S : SA} {s : List Int} (h : stE m l S = 0) (I : Inv m.toNat l s S) {x y : Nat × Nat × Nat} (hx : x ∈ canE m l S) (hy : y ∈ canE m l S) (hne : x ≠ y) : doS m l (doS m l S x.1 x.2.1 x.2.2) y.1 y.2.1 y.2.2 = doS m l (doS m l S y.1 y.2.1 y.2.2) x.1 x.2.1 x.2.2 := by
  rw [do_is (can_after h hx hy hne), do_is (can_after h hy hx hne.symm), do_is (can_do0 h hx), do_is (can_do0 h hy)]
  have e2 : canE m l S = canL m.toNat l S := if_pos h
  rw [e2] at hx hy
  obtain ⟨a1, a2, a3, a4⟩ := canL_mem.1 hx
  obtain ⟨b1, b2, b3, b4⟩ := canL_mem.1 hy
  obtain ⟨sh, rfl, h0, _, hc, _, _, _⟩ := stE_zero h
  refine comm_do (by simpa using h0) (fun n hn => good_of (chkL_in hc n hn)) I a1 b1 a2 a3 b2 b3 a4 b4 fun e => hne ?_
  exact Prod.ext e.1 (Prod.ext e.2.1 e.2.2)
theorem inv_st {m : Int} {l : List TxA} {S : SA} {s : List Int} (hp : planE m l = 0) (I : Inv m.toNat l s S) : stE m l S = 0 := by
  unfold stE
  rw [if_pos hp, formB_iff.2 I.f, truthB_iff.2 I.t]
  rfl
theorem beg_zero {m : Int} {l : List TxA} {s : List Int} (h : begE m l s = 0) : planE m l = 0 ∧ s.length = 8 := by
  unfold begE lenE at h
  by_cases h1 : planE m l = 0
  · rw [h1] at h
    refine ⟨h1, ?_⟩
    apply Classical.byContradiction
    intro h8
    simp [firstNZ, h8] at h
  · simp [firstNZ, h1] at h
theorem beg_inv {m : Int} {l : List TxA} {s : List Int} (h : begE m l s = 0) : Inv m.toNat l s (begS m l s) := by
  obtain ⟨hp, h8⟩ := beg_zero h
  have e : begS m l s = begX m.toNat l s := if_pos h
  rw [e]
  exact inv_beg _ _ _ h8 (fun n hn => good_of (chkL_in (planE_zero hp).2.2 n hn))
theorem can_inv {m : Int} {l : List TxA} {S : SA} {s : List Int} (h8 : s.length = 8) (h : stE m l S = 0) (I : Inv m.toNat l s S) {x : Nat × Nat × Nat} (hx : x ∈ canE m l S) : Inv m.toNat l s (doS m l S x.1 x.2.1 x.2.2) := by
  rw [do_is (can_do0 h hx)]
  have e2 : canE m l S = canL m.toNat l S := if_pos h
  rw [e2] at hx
  obtain ⟨a1, a2, a3, a4⟩ := canL_mem.1 hx
  obtain ⟨sh, rfl, h0, _, hc, _, _, _⟩ := stE_zero h
  exact inv_do (by simpa using h0) h8 (fun n hn => good_of (chkL_in hc n hn)) I a1 a2 a3 a4
end Go.Proofs.YtebjkmknhpgemaaGreat

namespace Go.Proofs.YtebjkmknhpgemaaGreat
open Go.ChangeShapes Go.WideShapes Go.ChangeAt Go.RowKit Go.Deep

section
variable {H : Type} {enc : TypeId × Value → H} {w : World} {base : Nat} {held : Bool}
set_option maxRecDepth 100000 in
theorem open_i {b0 : Nat} {v : Value} {d : DataW H} {p : List MemPlace} (hv : Value.okWide Tryz.prog w .any b0 3 v) (h : DataW.Trod enc Tryz.prog w base (fun _ => true) held 3 v d p) :
    ∃ n : Int, v = .int .i64 n ∧ (Lit.int .i64 n).wf = true := by
  obtain ⟨n, rfl, _, _, hw⟩ := open_int Tryz.underlying3 hv h
  exact ⟨n, rfl, hw⟩
end

set_option maxRecDepth 100000 in
theorem wf_bounds {c : Int} (h : (Lit.int .i64 c).wf = true) : -9223372036854775808 ≤ c ∧ c ≤ 9223372036854775807 := by
  simp only [Lit.wf, Bool.and_eq_true, decide_eq_true_eq] at h
  have e1 : IntKind.i64.min = -9223372036854775808 := by decide
  have e2 : IntKind.i64.max = 9223372036854775807 := by decide
  rw [e1, e2] at h
  exact h

set_option maxRecDepth 100000 in
theorem choose_any (c : Int) (n : Nat) (w : World) (hc : (Lit.int .i64 c).wf = true) (hn : 0 < n) (hn' : n ≤ 100) :
    Calls Tryz.prog 29 #[.int .i64 c, .int .i64 n] w fun e w' => ∃ k : Nat, k < n ∧ e = .returned (.int .i64 k) ∧ w' = w := by
  obtain ⟨c1, c2⟩ := wf_bounds hc
  clear hc
  by_cases h : c < 0
  · go_enter Tryz.func29, Tryz.ntmps29
    go_wp2
    go_ret
    have h1 : 0 ≤ (-(c + 1)) % (n : Int) := Int.emod_nonneg _ (by omega)
    have h2 : (-(c + 1)) % (n : Int) < n := Int.emod_lt_of_pos _ (by omega)
    refine ⟨((-(c + 1)) % (n : Int)).toNat, by omega, ?_, rfl⟩
    show Ending.returned (Value.int .i64 (-(c + 1).tmod ↑n)) = _
    rw [Int.toNat_of_nonneg h1, ← Int.neg_tmod, Int.tmod_eq_emod_of_nonneg (by omega)]
  · go_enter Tryz.func29, Tryz.ntmps29
    go_wp2
    go_ret
    have h1 : 0 ≤ c % (n : Int) := Int.emod_nonneg _ (by omega)
    have h2 : c % (n : Int) < n := Int.emod_lt_of_pos _ (by omega)
    exact ⟨(c % (n : Int)).toNat, by omega, by show Ending.returned (Value.int .i64 (c % (n : Int))) = _; rw [Int.toNat_of_nonneg h1], rfl⟩

set_option maxRecDepth 100000 in
/-- Parts of a list of transactions. -/
theorem isTxs_take {w : World} {a : Option Addr} {l : List TxA} (h : IsTxs w a l) (k : Nat) : IsTxs w a (l.take k) := fun i hi => by
  have hl : i < l.length := by rw [List.length_take] at hi; omega
  have hk : i < k := by rw [List.length_take] at hi; omega
  have e : (l.take k).getD i x0 = l.getD i x0 := by simp [List.getD, hk]
  rw [e]
  exact h i hl
set_option maxRecDepth 100000 in
theorem isTxs_drop {w : World} {b off : Nat} {l : List TxA} (h : IsTxs w (some ⟨b, off, none⟩) l) (k : Nat) : IsTxs w (some ⟨b, off + k * 3, none⟩) (l.drop k) := fun i hi => by
  have hl : k + i < l.length := by rw [List.length_drop] at hi; omega
  have e : (l.drop k).getD i x0 = l.getD (k + i) x0 := by simp [List.getD]
  rw [e]
  obtain ⟨b', off', ha, hlt, c0, c1, c2, hx⟩ := h (k + i) hl
  injection ha with ha
  injection ha with e1 e2 _
  subst e1 e2
  have q : off + (k + i) * 3 = off + k * 3 + i * 3 := by omega
  rw [q] at c0 c1 c2
  exact ⟨b, off + k * 3, rfl, hlt, c0, c1, c2, hx⟩
set_option maxRecDepth 100000 in
theorem isRes_take {w : World} {a : Option Addr} {l : List (Bool × List Int)} (h : IsRes w a l) (k : Nat) : IsRes w a (l.take k) := fun i hi => by
  have hl : i < l.length := by rw [List.length_take] at hi; omega
  have hk : i < k := by rw [List.length_take] at hi; omega
  have e : (l.take k).getD i (false, []) = l.getD i (false, []) := by simp [List.getD, hk]
  rw [e]
  exact h i hl
set_option maxRecDepth 100000 in
theorem isRes_drop {w : World} {b off : Nat} {l : List (Bool × List Int)} (h : IsRes w (some ⟨b, off, none⟩) l) (k : Nat) : IsRes w (some ⟨b, off + k * 2, none⟩) (l.drop k) := fun i hi => by
  have hl : k + i < l.length := by rw [List.length_drop] at hi; omega
  have e : (l.drop k).getD i (false, []) = l.getD (k + i) (false, []) := by simp [List.getD]
  rw [e]
  obtain ⟨b', off', va, vc, ha, hlt, c0, c1, hx⟩ := h (k + i) hl
  injection ha with ha
  injection ha with e1 e2 _
  subst e1 e2
  have q : off + (k + i) * 2 = off + k * 2 + i * 2 := by omega
  rw [q] at c0 c1
  exact ⟨b, off + k * 2, va, vc, rfl, hlt, c0, c1, hx⟩
set_option maxRecDepth 100000 in
theorem SO.form {C : Nat} {w : World} {ea xa : Option Addr} {ec xc : Nat} {E : List Int} {R : List (Bool × List Int)} (h : SO C w ea ec xa xc E R) : (xa = none ∧ xc = 0 ∧ R = []) ∨ (∃ b, xa = some ⟨b, 0, none⟩ ∧ R.length ≤ xc) := by
  obtain ⟨_, _, rl, h3, h4⟩ := h
  rcases h3.1.2 with ⟨hv, h0⟩ | ⟨g, cap, cur, hv, _, _, hnc, _⟩
  · injection hv with e1 e2 e3
    exact .inl ⟨e1, e3, List.eq_nil_of_length_eq_zero e2⟩
  · injection hv with e1 e2 e3
    exact .inr ⟨g, e1, by rw [e2, e3]; exact hnc⟩

set_option maxRecDepth 100000 in
theorem serE_part {s : List Int} {l : List TxA} (h : serE s l = 0) (m : List TxA) (hm : ∀ x ∈ m, x ∈ l) (hl : m.length ≤ l.length) (s' : List Int) (hs : s'.length = s.length) : serE s' m = 0 := by
  obtain ⟨h8, hc⟩ := serE_zero h
  rw [serE_chk (hs.trans h8)]
  have hl8 := chkL_len hc
  unfold chkL
  rw [if_neg (by omega)]
  have key : ∀ n : List TxA, (∀ x ∈ n, chkX x = 0) → firstNZ (n.map chkX) = 0 := by
    intro n
    induction n with
    | nil => intro _; rfl
    | cons y t ih =>
      intro hn
      simp only [List.map_cons, firstNZ]
      rw [if_pos (hn y (List.mem_cons_self))]
      exact ih (fun x hx => hn x (List.mem_cons_of_mem _ hx))
  refine key m (fun x hx => ?_)
  obtain ⟨k, hk, rfl⟩ := List.mem_iff_getElem.1 (hm x hx)
  have := chkL_at hc k hk
  simpa [List.getD, hk] using this

set_option maxRecDepth 100000 in
theorem serRes_at (s : List Int) (l : List TxA) (i : Nat) (h : i < l.length) : ((serRes s l).getD i (false, [])).1 = aDone (serEnd s (l.take i)) (l.getD i x0) := by
  have h1 := serRes_app (l.take i) (l.drop i) s
  rw [List.take_append_drop] at h1
  have h2 : (serRes s (l.take i)).length = i := by rw [serRes_len, List.length_take]; omega
  rw [h1]
  rw [drop_get l i x0 h]
  simp only [serRes]
  rw [List.getD_eq_getElem?_getD, List.getElem?_append_right (by omega), h2]
  simp

set_option maxRecDepth 100000 in
/-- What nobody sets stays. -/
theorem serEnd_stays : ∀ (l : List TxA) (s : List Int) (i : Nat), (∀ k, k < l.length → ((serRes s l).getD k (false, [])).1 = true → ∀ z ∈ keysOf (l.getD k x0).ss, z.toNat ≠ i) → (serEnd s l).getD i 0 = s.getD i 0
  | [], _, _, _ => rfl
  | x :: t, s, i, h => by
    rw [serEnd, serEnd_stays t (aEnd s x) i (fun k hk hd => ?_)]
    · by_cases hd : aDone s x = true
      · exact putAll_far _ _ _ _ (h 0 (by simp) (by simpa [serRes] using hd))
      · rw [aEnd_idle s x (by simpa using hd)]
    · exact h (k + 1) (by simpa using hk) (by simpa [serRes] using hd)
end Go.Proofs.YtebjkmknhpgemaaGreat

namespace Go.Proofs.YtebjkmknhpgemaaGreat
open Go.RowKit

def chK (c : Int) (n : Nat) : Nat := if c < 0 then ((-(c + 1)) % (n : Int)).toNat else (c % (n : Int)).toNat
theorem chK_lt (c : Int) {n : Nat} (h : 0 < n) : chK c n < n := by
  unfold chK
  split
  · have := Int.emod_lt_of_pos (-(c + 1)) (b := (n : Int)) (by omega)
    have := Int.emod_nonneg (-(c + 1)) (b := (n : Int)) (by omega)
    omega
  · have := Int.emod_lt_of_pos c (b := (n : Int)) (by omega)
    have := Int.emod_nonneg c (b := (n : Int)) (by omega)
    omega

set_option maxRecDepth 100000 in
theorem choose_is (c : Int) (n : Nat) (w : World) (hc : (Lit.int .i64 c).wf = true) (hn : 0 < n) (hn' : n ≤ 100) :
    Calls Tryz.prog 29 #[.int .i64 c, .int .i64 n] w fun e w' => e = .returned (.int .i64 (chK c n : Nat)) ∧ w' = w := by
  obtain ⟨c1, c2⟩ := wf_bounds hc
  clear hc
  by_cases h : c < 0
  · have h1 : 0 ≤ (-(c + 1)) % (n : Int) := Int.emod_nonneg _ (by omega)
    have e0 : chK c n = ((-(c + 1)) % (n : Int)).toNat := if_pos h
    rw [e0]
    generalize hk : ((-(c + 1)) % (n : Int)).toNat = K
    go_enter Tryz.func29, Tryz.ntmps29
    go_wp2
    go_ret
    refine ⟨?_, rfl⟩
    show Ending.returned (Value.int .i64 (-(c + 1).tmod ↑n)) = _
    rw [← hk, Int.toNat_of_nonneg h1, ← Int.neg_tmod, Int.tmod_eq_emod_of_nonneg (by omega)]
  · have h1 : 0 ≤ c % (n : Int) := Int.emod_nonneg _ (by omega)
    have e0 : chK c n = (c % (n : Int)).toNat := if_neg h
    rw [e0]
    generalize hk : (c % (n : Int)).toNat = K
    go_enter Tryz.func29, Tryz.ntmps29
    go_wp2
    go_ret
    refine ⟨?_, rfl⟩
    show Ending.returned (Value.int .i64 (c % ↑n)) = _
    rw [← hk, Int.toNat_of_nonneg h1]

/-- A state that is stored into a cell of four. -/
theorem put4 {w : World} {R : Nat} (q : Q4) {u0 u1 u2 u3 : Value} (t0 : w.cell? ⟨R, 0, none⟩ = some u0) (t1 : w.cell? ⟨R, 1, none⟩ = some u1) (t2 : w.cell? ⟨R, 2, none⟩ = some u2) (t3 : w.cell? ⟨R, 3, none⟩ = some u3) : ((((w.setCell ⟨R, 0, none⟩ (.slice q.sa q.sn q.sc)).setCell ⟨R, 1, none⟩ (.slice q.ra q.rn q.rc)).setCell ⟨R, 2, none⟩ (.slice q.wa q.wn q.tc)).setCell ⟨R, 3, none⟩ (.slice q.va q.vn q.vc)).cell? ⟨R, 0, none⟩ = some (.slice q.sa q.sn q.sc) ∧ ((((w.setCell ⟨R, 0, none⟩ (.slice q.sa q.sn q.sc)).setCell ⟨R, 1, none⟩ (.slice q.ra q.rn q.rc)).setCell ⟨R, 2, none⟩ (.slice q.wa q.wn q.tc)).setCell ⟨R, 3, none⟩ (.slice q.va q.vn q.vc)).cell? ⟨R, 1, none⟩ = some (.slice q.ra q.rn q.rc) ∧ ((((w.setCell ⟨R, 0, none⟩ (.slice q.sa q.sn q.sc)).setCell ⟨R, 1, none⟩ (.slice q.ra q.rn q.rc)).setCell ⟨R, 2, none⟩ (.slice q.wa q.wn q.tc)).setCell ⟨R, 3, none⟩ (.slice q.va q.vn q.vc)).cell? ⟨R, 2, none⟩ = some (.slice q.wa q.wn q.tc) ∧ ((((w.setCell ⟨R, 0, none⟩ (.slice q.sa q.sn q.sc)).setCell ⟨R, 1, none⟩ (.slice q.ra q.rn q.rc)).setCell ⟨R, 2, none⟩ (.slice q.wa q.wn q.tc)).setCell ⟨R, 3, none⟩ (.slice q.va q.vn q.vc)).cell? ⟨R, 3, none⟩ = some (.slice q.va q.vn q.vc) := ⟨(set_off (by decide) (set_off (by decide) (set_off (by decide) (set_here t0)))), (set_off (by decide) (set_off (by decide) (set_here (set_off (by decide) t1)))), (set_off (by decide) (set_here (set_off (by decide) (set_off (by decide) t2)))), (set_here (set_off (by decide) (set_off (by decide) (set_off (by decide) t3))))⟩

variable (la : Option Addr) (lc : Nat) (l : List TxA) (sa : Option Addr) (sc : Nat) (s : List Int) (pa : Option Addr) (pc : Nat) (pk : List Int)

set_option maxRecDepth 100000 in
set_option maxHeartbeats 4000000 in
/-- Where picks lead to. -/
theorem reached_any (m : Int) (w : World) (hl : IsTxs w la l) (hs : IsInts w sa s) (hp : IsInts w pa pk) (hw : ∀ i, i < pk.length → (Lit.int .i64 (pk.getD i 0)).wf = true) :
    Calls Tryz.prog 28 #[.agg #[.int .i64 m, .slice la l.length lc], .slice sa s.length sc, .slice pa pk.length pc] w fun e w' => ∃ (q : Q4) (b : Bool) (S' : SA), e = .returned (.tuple #[.agg #[.slice q.sa q.sn q.sc, .slice q.ra q.rn q.rc, .slice q.wa q.wn q.tc, .slice q.va q.vn q.vc], .bool b]) ∧ StaQ S' q w' ∧ Below w.heap.size w w' ∧ (b = true → begE m l s = 0 ∧ Inv m.toNat l s S') ∧ (b = false → ¬ begE m l s = 0) := by
  have hg : Below w.heap.size w ((w.alloc (.cells #[.int .i64 m, .slice la l.length lc] 24)).alloc (.cells #[.slice none 0 0, .slice none 0 0, .slice none 0 0, .slice none 0 0] 29)) := grow_alloc (grow_alloc (Below.refl _ _) _) _
  have HG : Hid (Below w.heap.size w ((w.alloc (.cells #[.int .i64 m, .slice la l.length lc] 24)).alloc (.cells #[.slice none 0 0, .slice none 0 0, .slice none 0 0, .slice none 0 0] 29))) := hg
  have p0 : ((w.alloc (.cells #[.int .i64 m, .slice la l.length lc] 24)).alloc (.cells #[.slice none 0 0, .slice none 0 0, .slice none 0 0, .slice none 0 0] 29)).cell? ⟨w.heap.size, 0, none⟩ = some (.int .i64 m) := ext_cell (grow_alloc (Below.refl _ _) _) (at_new w _ 24 _ 0 _ rfl rfl)
  have p1 : ((w.alloc (.cells #[.int .i64 m, .slice la l.length lc] 24)).alloc (.cells #[.slice none 0 0, .slice none 0 0, .slice none 0 0, .slice none 0 0] 29)).cell? ⟨w.heap.size, 1, none⟩ = some (.slice la l.length lc) := ext_cell (grow_alloc (Below.refl _ _) _) (at_new w _ 24 _ 1 _ rfl rfl)
  have r0 : ((w.alloc (.cells #[.int .i64 m, .slice la l.length lc] 24)).alloc (.cells #[.slice none 0 0, .slice none 0 0, .slice none 0 0, .slice none 0 0] 29)).cell? ⟨w.heap.size + 1, 0, none⟩ = some (.slice none 0 0) := at_new _ _ 29 _ 0 _ (by simp) rfl
  have r1 : ((w.alloc (.cells #[.int .i64 m, .slice la l.length lc] 24)).alloc (.cells #[.slice none 0 0, .slice none 0 0, .slice none 0 0, .slice none 0 0] 29)).cell? ⟨w.heap.size + 1, 1, none⟩ = some (.slice none 0 0) := at_new _ _ 29 _ 1 _ (by simp) rfl
  have r2 : ((w.alloc (.cells #[.int .i64 m, .slice la l.length lc] 24)).alloc (.cells #[.slice none 0 0, .slice none 0 0, .slice none 0 0, .slice none 0 0] 29)).cell? ⟨w.heap.size + 1, 2, none⟩ = some (.slice none 0 0) := at_new _ _ 29 _ 2 _ (by simp) rfl
  have r3 : ((w.alloc (.cells #[.int .i64 m, .slice la l.length lc] 24)).alloc (.cells #[.slice none 0 0, .slice none 0 0, .slice none 0 0, .slice none 0 0] 29)).cell? ⟨w.heap.size + 1, 3, none⟩ = some (.slice none 0 0) := at_new _ _ 29 _ 3 _ (by simp) rfl
  have rf : ∀ j, ((w.alloc (.cells #[.int .i64 m, .slice la l.length lc] 24)).alloc (.cells #[.slice none 0 0, .slice none 0 0, .slice none 0 0, .slice none 0 0] 29)).frozen? ⟨w.heap.size + 1, j, none⟩ = false := fun j => frozen_new _ _ 29 _ j (by simp)
  have sz : Hid (((w.alloc (.cells #[.int .i64 m, .slice la l.length lc] 24)).alloc (.cells #[.slice none 0 0, .slice none 0 0, .slice none 0 0, .slice none 0 0] 29)).heap.size = w.heap.size + 2) := by show _ = _; simp
  have KEEP : Hid (∀ w', Below ((w.alloc (.cells #[.int .i64 m, .slice la l.length lc] 24)).alloc (.cells #[.slice none 0 0, .slice none 0 0, .slice none 0 0, .slice none 0 0] 29)).heap.size ((w.alloc (.cells #[.int .i64 m, .slice la l.length lc] 24)).alloc (.cells #[.slice none 0 0, .slice none 0 0, .slice none 0 0, .slice none 0 0] 29)) w' → w'.cell? ⟨w.heap.size, 0, none⟩ = some (.int .i64 m) ∧ w'.cell? ⟨w.heap.size, 1, none⟩ = some (.slice la l.length lc) ∧ w'.cell? ⟨w.heap.size + 1, 0, none⟩ = some (.slice none 0 0) ∧ w'.cell? ⟨w.heap.size + 1, 1, none⟩ = some (.slice none 0 0) ∧ w'.cell? ⟨w.heap.size + 1, 2, none⟩ = some (.slice none 0 0) ∧ w'.cell? ⟨w.heap.size + 1, 3, none⟩ = some (.slice none 0 0) ∧ (∀ j, w'.frozen? ⟨w.heap.size + 1, j, none⟩ = false)) := fun w' hb => ⟨ext_cell hb p0, ext_cell hb p1, ext_cell hb r0, ext_cell hb r1, ext_cell hb r2, ext_cell hb r3, fun j => (hb.frozen (p := ⟨w.heap.size + 1, j, none⟩) (by rw [sz.out]; exact Nat.lt_succ_self _)).trans (rf j)⟩
  have CB : Hid (Calls Tryz.prog 14 #[.agg #[.int .i64 m, .slice la l.length lc], .slice sa s.length sc] ((w.alloc (.cells #[.int .i64 m, .slice la l.length lc] 24)).alloc (.cells #[.slice none 0 0, .slice none 0 0, .slice none 0 0, .slice none 0 0] 29)) fun e w' => ∃ q : Q4, e = .returned (.tuple #[.agg #[.slice q.sa q.sn q.sc, .slice q.ra q.rn q.rc, .slice q.wa q.wn q.tc, .slice q.va q.vn q.vc], .int .i64 (begE m l s)]) ∧ StaF ((w.alloc (.cells #[.int .i64 m, .slice la l.length lc] 24)).alloc (.cells #[.slice none 0 0, .slice none 0 0, .slice none 0 0, .slice none 0 0] 29)).heap.size (begS m l s) q w' ∧ Below ((w.alloc (.cells #[.int .i64 m, .slice la l.length lc] 24)).alloc (.cells #[.slice none 0 0, .slice none 0 0, .slice none 0 0, .slice none 0 0] 29)).heap.size ((w.alloc (.cells #[.int .i64 m, .slice la l.length lc] 24)).alloc (.cells #[.slice none 0 0, .slice none 0 0, .slice none 0 0, .slice none 0 0] 29)) w') := stepsBegin_any la lc l sa sc s m ((w.alloc (.cells #[.int .i64 m, .slice la l.length lc] 24)).alloc (.cells #[.slice none 0 0, .slice none 0 0, .slice none 0 0, .slice none 0 0] 29)) (hl.below hg) (hs.below hg)
  have HL : Hid (IsTxs ((w.alloc (.cells #[.int .i64 m, .slice la l.length lc] 24)).alloc (.cells #[.slice none 0 0, .slice none 0 0, .slice none 0 0, .slice none 0 0] 29)) la l) := hl.below hg
  have HP : Hid (IsInts ((w.alloc (.cells #[.int .i64 m, .slice la l.length lc] 24)).alloc (.cells #[.slice none 0 0, .slice none 0 0, .slice none 0 0, .slice none 0 0] 29)) pa pk) := hp.below hg
  have HI : Hid (begE m l s = 0 → Inv m.toNat l s (begS m l s)) := beg_inv
  have HZ : Hid (begE m l s = 0 → planE m l = 0 ∧ s.length = 8) := beg_zero
  have HWF : Hid (∀ i, i < pk.length → (Lit.int .i64 (pk.getD i 0)).wf = true) := hw
  clear hl hs hp hg hw p0 p1 r0 r1 r2 r3 rf
  obtain ⟨E, hE⟩ : ∃ E, begE m l s = E := ⟨_, rfl⟩
  obtain ⟨S0, hS⟩ : ∃ S0, begS m l s = S0 := ⟨_, rfl⟩
  simp only [hE, hS] at CB HI HZ ⊢
  clear hE hS
  go_enter Tryz.func28, Tryz.ntmps28
  go_upto_region 1 with fail
  generalize ((w.alloc (.cells #[.int .i64 m, .slice la l.length lc] 24)).alloc (.cells #[.slice none 0 0, .slice none 0 0, .slice none 0 0, .slice none 0 0] 29)) = W at *
  obtain ⟨p0, p1, r0, r1, r2, r3, rf⟩ := KEEP.out W (Below.refl _ _)
  go_wp2_with fail
  refine CB.out.mono ?_
  rintro e w1 ⟨q, rfl, hq, hb1⟩
  have gA : Below w1.heap.size w1 (w1.alloc (.cells #[.slice q.sa q.sn q.sc, .slice q.ra q.rn q.rc, .slice q.wa q.wn q.tc, .slice q.va q.vn q.vc] 29)) := grow_alloc (Below.refl _ _) _
  have hb2 : Below W.heap.size W (w1.alloc (.cells #[.slice q.sa q.sn q.sc, .slice q.ra q.rn q.rc, .slice q.wa q.wn q.tc, .slice q.va q.vn q.vc] 29)) := grow_trans hb1 gA
  have BV : Hid (Below W.heap.size W (w1.alloc (.cells #[.slice q.sa q.sn q.sc, .slice q.ra q.rn q.rc, .slice q.wa q.wn q.tc, .slice q.va q.vn q.vc] 29))) := hb2
  have HQ : Hid (StaF W.heap.size S0 q (w1.alloc (.cells #[.slice q.sa q.sn q.sc, .slice q.ra q.rn q.rc, .slice q.wa q.wn q.tc, .slice q.va q.vn q.vc] 29))) := hq.below gA
  have hbb : Hid (W.heap.size ≤ w1.heap.size) := hb1.size
  have KF : Hid (∀ j, (w1.alloc (.cells #[.slice q.sa q.sn q.sc, .slice q.ra q.rn q.rc, .slice q.wa q.wn q.tc, .slice q.va q.vn q.vc] 29)).frozen? ⟨w1.heap.size, j, none⟩ = false) := fun j => frozen_new _ _ 29 _ j rfl
  have k0 : (w1.alloc (.cells #[.slice q.sa q.sn q.sc, .slice q.ra q.rn q.rc, .slice q.wa q.wn q.tc, .slice q.va q.vn q.vc] 29)).cell? ⟨w1.heap.size, 0, none⟩ = some (.slice q.sa q.sn q.sc) := at_new _ _ 29 _ 0 _ rfl rfl
  have k1 : (w1.alloc (.cells #[.slice q.sa q.sn q.sc, .slice q.ra q.rn q.rc, .slice q.wa q.wn q.tc, .slice q.va q.vn q.vc] 29)).cell? ⟨w1.heap.size, 1, none⟩ = some (.slice q.ra q.rn q.rc) := at_new _ _ 29 _ 1 _ rfl rfl
  have k2 : (w1.alloc (.cells #[.slice q.sa q.sn q.sc, .slice q.ra q.rn q.rc, .slice q.wa q.wn q.tc, .slice q.va q.vn q.vc] 29)).cell? ⟨w1.heap.size, 2, none⟩ = some (.slice q.wa q.wn q.tc) := at_new _ _ 29 _ 2 _ rfl rfl
  have k3 : (w1.alloc (.cells #[.slice q.sa q.sn q.sc, .slice q.ra q.rn q.rc, .slice q.wa q.wn q.tc, .slice q.va q.vn q.vc] 29)).cell? ⟨w1.heap.size, 3, none⟩ = some (.slice q.va q.vn q.vc) := at_new _ _ 29 _ 3 _ rfl rfl
  clear hb1 gA hq CB p0 p1 r0 r1 r2 r3 rf hb2
  go_upto_region 2 with fail
  generalize w1.alloc (.cells #[.slice q.sa q.sn q.sc, .slice q.ra q.rn q.rc, .slice q.wa q.wn q.tc, .slice q.va q.vn q.vc] 29) = V0 at *
  generalize w1.heap.size = b1 at *
  obtain ⟨p0, p1, r0, r1, r2, r3, rf⟩ := KEEP.out V0 BV.out
  by_cases hE0 : E = 0
  rotate_left
  · have hb : (E != 0) = true := by simpa using hE0
    have BW : Hid (Below w.heap.size w V0) := grow_trans HG.out BV.out
    clear HQ KF HI HZ k0 k1 k2 k3
    obtain ⟨x0, x1, x2, x3⟩ := put4 qNil r0 r1 r2 r3
    dsimp only [qNil] at x0 x1 x2 x3
    go_wp2_with fail
    refine bodyPost_ret (v := .tuple #[.agg #[.slice none 0 0, .slice none 0 0, .slice none 0 0, .slice none 0 0], .bool false]) (by simp [results, Tryz.results28, go_sem, x0, x1, x2, x3]) rfl ⟨qNil, false, SNil, rfl, staQ_nil _, ?_, (fun h => by cases h), (fun _ => hE0)⟩
    repeat (first | exact BW.out | refine grow_set ?_ (by simp) _)
  · subst hE0
    have HI0 : Hid (Inv m.toNat l s S0) := HI.out rfl
    have hPZ : Hid (planE m l = 0) := (HZ.out rfl).1
    have h8 : Hid (s.length = 8) := (HZ.out rfl).2
    clear HI HZ p0 p1 r0 r1 r2 r3 rf
    go_wp2
    go_loopw [10] (fun i wr => ∃ (k : Nat) (q : Q4) (S : SA), i = .int .i64 k ∧ k ≤ pk.length ∧ wr.cell? ⟨b1, 0, none⟩ = some (.slice q.sa q.sn q.sc) ∧ wr.cell? ⟨b1, 1, none⟩ = some (.slice q.ra q.rn q.rc) ∧ wr.cell? ⟨b1, 2, none⟩ = some (.slice q.wa q.wn q.tc) ∧ wr.cell? ⟨b1, 3, none⟩ = some (.slice q.va q.vn q.vc) ∧ Hid (∀ j, wr.frozen? ⟨b1, j, none⟩ = false) ∧ Hid (StaF W.heap.size S q wr) ∧ Hid (Inv m.toNat l s S) ∧ Hid (Below W.heap.size W wr)) (fun i _ => pk.length - (intOf i).toNat)
    case atStart => exact ⟨0, q, S0, rfl, Nat.zero_le _, k0, k1, k2, k3, KF, HQ, HI0, BV⟩
    case round =>
      clear k0 k1 k2 k3 KF HQ HI0 BV
      obtain ⟨k, q, S, rfl, hk, k0, k1, k2, k3, KF, HQ, HI0, BV⟩ := hrel
      obtain ⟨p0, p1, r0, r1, r2, r3, rf⟩ := KEEP.out wr BV.out
      have kf := KF.out
      have BW : Hid (Below w.heap.size w wr) := grow_trans HG.out BV.out
      by_cases hend : k < pk.length ∧ k < 64
      rotate_left
      · have hc : ((k : Int) < (pk.length : Int) ∧ ¬ (k : Int) < 64) ∨ ¬ (k : Int) < (pk.length : Int) := by omega
        clear HP HL KEEP HWF
        rcases hc with ⟨i1, i2⟩ | i1
        all_goals (
          obtain ⟨x0, x1, x2, x3⟩ := put4 q r0 r1 r2 r3
          go_wp2_with fail
          refine bodyPost_ret (v := .tuple #[.agg #[.slice q.sa q.sn q.sc, .slice q.ra q.rn q.rc, .slice q.wa q.wn q.tc, .slice q.va q.vn q.vc], .bool true]) (by simp [results, Tryz.results28, go_sem, x0, x1, x2, x3]) rfl ⟨q, rfl, S, ?_, ?_, HI0.out⟩
          · have hlt : w.heap.size + 1 < W.heap.size := by rw [sz.out]; exact Nat.lt_succ_self _
            exact ((((HQ.out.set _ 0 _ hlt).set _ 1 _ hlt).set _ 2 _ hlt).set _ 3 _ hlt).sta
          · repeat (first | exact BW.out | refine grow_set ?_ (by simp) _))
      · have i1 : (k : Int) < (pk.length : Int) := by omega
        have i2 : (k : Int) < 64 := by omega
        have hst := inv_st hPZ.out HI0.out
        have CN : Hid (Calls Tryz.prog 24 #[.agg #[.int .i64 m, .slice la l.length lc], .agg #[.slice q.sa q.sn q.sc, .slice q.ra q.rn q.rc, .slice q.wa q.wn q.tc, .slice q.va q.vn q.vc]] wr fun e w' => ∃ a c, e = .returned (.tuple #[.slice a (canE m l S).length c, .int .i64 0]) ∧ IsSteps w' a (canE m l S) ∧ Below wr.heap.size wr w') := by
          have h := can_q (m := m) (c := lc) (HL.out.below BV.out) HQ.out.sta
          rw [hst] at h
          exact h
        have hL64 : Hid ((canE m l S).length ≤ 64) := by
          have e2 : canE m l S = canL m.toNat l S := if_pos hst
          obtain ⟨sh, rfl, _, h4, hc, _⟩ := stE_zero hst
          show _ ≤ _
          rw [e2]
          exact canL_len _ _ _ (chkL_len hc) (by simpa using h4)
        have HDO : Hid (∀ x ∈ canE m l S, doE m l S x.1 x.2.1 x.2.2 = 0 ∧ Inv m.toNat l s (doS m l S x.1 x.2.1 x.2.2)) := fun x hx => ⟨can_do0 hst hx, can_inv h8.out hst HI0.out hx⟩
        have CD : Hid (∀ (kd n' k' : Int) (w' : World), Below wr.heap.size wr w' → Calls Tryz.prog 26 #[.agg #[.int .i64 m, .slice la l.length lc], .agg #[.slice q.sa q.sn q.sc, .slice q.ra q.rn q.rc, .slice q.wa q.wn q.tc, .slice q.va q.vn q.vc], .agg #[.int .i64 kd, .int .i64 n', .int .i64 k']] w' fun e w'' => ∃ q' : Q4, e = .returned (.tuple #[.agg #[.slice q'.sa q'.sn q'.sc, .slice q'.ra q'.rn q'.rc, .slice q'.wa q'.wn q'.tc, .slice q'.va q'.vn q'.vc], .int .i64 (doE m l S kd n' k')]) ∧ StaF w'.heap.size (doS m l S kd n' k') q' w'' ∧ Below w'.heap.size w' w'') := fun kd n' k' w' hb => do_q kd n' k' ((HL.out.below BV.out).below hb) (HQ.out.sta.below hb)
        clear hst
        generalize canE m l S = L at *
        go_upto_region 7 with fail
        go_wp2_with fail
        refine CN.out.mono ?_
        rintro e V ⟨a, c, rfl, hst, hb2⟩
        clear CN
        have B2 : Hid (Below wr.heap.size wr V) := hb2
        have BV2 : Hid (Below W.heap.size W V) := grow_trans BV.out hb2
        have BW2 : Hid (Below w.heap.size w V) := grow_trans BW.out hb2
        have HQ2 : Hid (StaF W.heap.size S q V) := HQ.out.below hb2
        have hsb : b1 < wr.heap.size := World.block_lt_of_cell? wr ⟨b1, 0, none⟩ k0
        have KF2 : Hid (∀ j, V.frozen? ⟨b1, j, none⟩ = false) := fun j => (hb2.frozen (p := ⟨b1, j, none⟩) hsb).trans (KF.out j)
        have hsb2 : Hid (b1 < V.heap.size) := Nat.lt_of_lt_of_le hsb hb2.size
        have k0 := ext_cell hb2 k0
        have k1 := ext_cell hb2 k1
        have k2 := ext_cell hb2 k2
        have k3 := ext_cell hb2 k3
        clear p0 p1 r0 r1 r2 r3 rf kf KF BW HQ hb2 hsb
        obtain ⟨p0, p1, r0, r1, r2, r3, rf⟩ := KEEP.out V BV2.out
        by_cases hL0 : ((L.length : Int) == 0) = true
        · obtain ⟨x0, x1, x2, x3⟩ := put4 q r0 r1 r2 r3
          go_wp2_with fail
          refine bodyPost_ret (v := .tuple #[.agg #[.slice q.sa q.sn q.sc, .slice q.ra q.rn q.rc, .slice q.wa q.wn q.tc, .slice q.va q.vn q.vc], .bool true]) (by simp [results, Tryz.results28, go_sem, x0, x1, x2, x3]) rfl ⟨q, rfl, S, ?_, ?_, HI0.out⟩
          · have hlt : w.heap.size + 1 < W.heap.size := by rw [sz.out]; exact Nat.lt_succ_self _
            exact ((((HQ2.out.set _ 0 _ hlt).set _ 1 _ hlt).set _ 2 _ hlt).set _ 3 _ hlt).sta
          · repeat (first | exact BW2.out | refine grow_set ?_ (by simp) _)
        · have hL0 : ((L.length : Int) == 0) = false := by simpa using hL0
          have hLp : 0 < L.length := by
            have : ¬ (L.length : Int) = 0 := by simpa using hL0
            omega
          have hLn := hL64.out
          obtain ⟨pb, po, ep, _, d0⟩ := (HP.out.below BV2.out) k hend.1
          subst ep
          have hwf : Hid ((Lit.int .i64 (pk.getD k 0)).wf = true) := HWF.out k hend.1
          generalize pk.getD k 0 = pk0 at *
          have hci := chK_lt pk0 hLp
          obtain ⟨sb, so, es, _, c0, c1, c2⟩ := hst (chK pk0 L.length) hci
          subst es
          obtain ⟨hdo, hin⟩ := HDO.out (L.getD (chK pk0 L.length) (0, 0, 0)) (by simp [List.getD, hci])
          have CC : Hid (∀ w', Calls Tryz.prog 29 #[.int .i64 pk0, .int .i64 L.length] w' fun e w'' => e = .returned (.int .i64 (chK pk0 L.length : Nat)) ∧ w'' = w') := fun w' => choose_is pk0 L.length w' hwf.out hLp (by omega)
          have CD1 := fun w' hb => CD.out ((L.getD (chK pk0 L.length) (0, 0, 0)).1 : Nat) ((L.getD (chK pk0 L.length) (0, 0, 0)).2.1 : Nat) ((L.getD (chK pk0 L.length) (0, 0, 0)).2.2 : Nat) w' (grow_trans B2.out hb)
          rw [hdo] at CD1
          clear CD HDO hdo hst hwf HWF KEEP HP r0 r1 r2 r3 rf hL64
          generalize doS m l S ((L.getD (chK pk0 L.length) (0, 0, 0)).1 : Nat) ((L.getD (chK pk0 L.length) (0, 0, 0)).2.1 : Nat) ((L.getD (chK pk0 L.length) (0, 0, 0)).2.2 : Nat) = S5 at *
          generalize ((L.getD (chK pk0 L.length) (0, 0, 0)).1 : Nat) = x1 at *
          generalize ((L.getD (chK pk0 L.length) (0, 0, 0)).2.1 : Nat) = x2 at *
          generalize ((L.getD (chK pk0 L.length) (0, 0, 0)).2.2 : Nat) = x3 at *
          have CDD : Hid (∀ w', Below V.heap.size V w' → Calls Tryz.prog 26 #[.agg #[.int .i64 m, .slice la l.length lc], .agg #[.slice q.sa q.sn q.sc, .slice q.ra q.rn q.rc, .slice q.wa q.wn q.tc, .slice q.va q.vn q.vc], .agg #[.int .i64 (x1 : Nat), .int .i64 (x2 : Nat), .int .i64 (x3 : Nat)]] w' fun e w'' => ∃ q' : Q4, e = .returned (.tuple #[.agg #[.slice q'.sa q'.sn q'.sc, .slice q'.ra q'.rn q'.rc, .slice q'.wa q'.wn q'.tc, .slice q'.va q'.vn q'.vc], .int .i64 0]) ∧ StaF w'.heap.size S5 q' w'' ∧ Below w'.heap.size w' w'') := CD1
          clear CD1
          have HIN : Hid (Inv m.toNat l s S5) := hin
          clear hin HQ2 HI0 HG BV B2 HL
          go_upto_region 10 with fail
          have KS : Hid (∀ w', Below V.heap.size V w' → w'.cell? ⟨w.heap.size, 0, none⟩ = some (.int .i64 m) ∧ w'.cell? ⟨w.heap.size, 1, none⟩ = some (.slice la l.length lc) ∧ w'.cell? ⟨b1, 0, none⟩ = some (.slice q.sa q.sn q.sc) ∧ w'.cell? ⟨b1, 1, none⟩ = some (.slice q.ra q.rn q.rc) ∧ w'.cell? ⟨b1, 2, none⟩ = some (.slice q.wa q.wn q.tc) ∧ w'.cell? ⟨b1, 3, none⟩ = some (.slice q.va q.vn q.vc) ∧ w'.cell? ⟨pb, po + k, none⟩ = some (.int .i64 pk0) ∧ w'.cell? ⟨sb, so + chK pk0 L.length * 3, none⟩ = some (.int .i64 (x1 : Nat)) ∧ w'.cell? ⟨sb, so + chK pk0 L.length * 3 + 1, none⟩ = some (.int .i64 (x2 : Nat)) ∧ w'.cell? ⟨sb, so + chK pk0 L.length * 3 + 2, none⟩ = some (.int .i64 (x3 : Nat)) ∧ Hid (Below V.heap.size V w')) := fun w' hb => ⟨ext_cell hb p0, ext_cell hb p1, ext_cell hb k0, ext_cell hb k1, ext_cell hb k2, ext_cell hb k3, ext_cell hb d0, ext_cell hb c0, ext_cell hb c1, ext_cell hb c2, hb⟩
          go_cut [13, 14] (fun p5 e5 wx => ∃ (b5 : Nat) (q5 : Q4), p5 = .pointer (some ⟨b5, 0, none⟩) ∧ e5 = .int .i64 0 ∧ wx.cell? ⟨b5, 0, none⟩ = some (.slice q5.sa q5.sn q5.sc) ∧ wx.cell? ⟨b5, 1, none⟩ = some (.slice q5.ra q5.rn q5.rc) ∧ wx.cell? ⟨b5, 2, none⟩ = some (.slice q5.wa q5.wn q5.tc) ∧ wx.cell? ⟨b5, 3, none⟩ = some (.slice q5.va q5.vn q5.vc) ∧ Hid (StaF V.heap.size S5 q5 wx) ∧ Hid (V.heap.size ≤ b5) ∧ Hid (Below V.heap.size V wx))
          case first =>
            clear k0 k1 k2 k3 p0 p1 d0 c0 c1 c2 BV2 BW2 KF2 hsb2 HIN
            go_region_held3 (fun w' => w'.cell? ⟨w.heap.size, 0, none⟩ = some (.int .i64 m) ∧ w'.cell? ⟨w.heap.size, 1, none⟩ = some (.slice la l.length lc) ∧ w'.cell? ⟨b1, 0, none⟩ = some (.slice q.sa q.sn q.sc) ∧ w'.cell? ⟨b1, 1, none⟩ = some (.slice q.ra q.rn q.rc) ∧ w'.cell? ⟨b1, 2, none⟩ = some (.slice q.wa q.wn q.tc) ∧ w'.cell? ⟨b1, 3, none⟩ = some (.slice q.va q.vn q.vc) ∧ w'.cell? ⟨pb, po + k, none⟩ = some (.int .i64 pk0) ∧ w'.cell? ⟨sb, so + chK pk0 L.length * 3, none⟩ = some (.int .i64 (x1 : Nat)) ∧ w'.cell? ⟨sb, so + chK pk0 L.length * 3 + 1, none⟩ = some (.int .i64 (x2 : Nat)) ∧ w'.cell? ⟨sb, so + chK pk0 L.length * 3 + 2, none⟩ = some (.int .i64 (x3 : Nat)) ∧ Hid (Below V.heap.size V w')) ((refine KS.out _ ?_; go_split_ands; repeat (first | assumption | exact Below.refl _ _ | exact Hid.out (by assumption) | refine grow_drew ?_ | refine grow_alloc ?_ _ | refine grow_set ?_ (by first | exact Nat.le_refl _ | assumption) _ | refine grow_trans ?_ (by assumption))))
              (first
                | (go_at_call 29; refine (CC.out _).mono ?_; rintro e wa ⟨rfl, rfl⟩)
                | (go_at_call 26; refine (CDD.out _ ?_).mono ?_; (go_split_ands; first | exact Hid.out (by assumption) | (repeat (first | assumption | exact Below.refl _ _ | exact Hid.out (by assumption) | refine grow_drew ?_ | refine grow_alloc ?_ _ | refine grow_set ?_ (by first | exact Nat.le_refl _ | assumption) _ | refine grow_trans ?_ (by assumption)))); rintro e wb ⟨q5, rfl, h5, hbwb⟩; have hzwb : V.heap.size ≤ wb.heap.size := size_le (grow_trans (by go_split_ands; first | exact Hid.out (by assumption) | (first | exact Below.refl _ _ | exact grow_drew (Below.refl _ _) | exact grow_alloc (Below.refl _ _) _ | exact grow_alloc (grow_drew (Below.refl _ _)) _ | exact grow_drew (grow_alloc (Below.refl _ _) _)) : Below V.heap.size V _) hbwb); (first | (obtain ⟨t0, t1, t2, t3, tf, tl⟩ := fresh4 (V := V) hbwb rfl) | skip)))
            all_goals (go_wp2_with fail; go_meet)
            all_goals (
              go_split_ands
              first
                | exact ⟨_, q5, rfl, rfl, by simp, by simp, by simp, by simp, (h5.low (by first | exact Nat.le_refl _ | simp)).below (grow_alloc (Below.refl _ _) _), hzwb, Hid.out (by assumption)⟩
                | exact ⟨_, q5, rfl, rfl, (set_off (by decide) (set_off (by decide) (set_off (by decide) (set_here t0)))), (set_off (by decide) (set_off (by decide) (set_here (set_off (by decide) t1)))), (set_off (by decide) (set_here (set_off (by decide) (set_off (by decide) t2)))), (set_here (set_off (by decide) (set_off (by decide) (set_off (by decide) t3)))), ((((h5.set _ 0 _ tl).set _ 1 _ tl).set _ 2 _ tl).set _ 3 _ tl).low (Nat.le_of_lt tl), Nat.le_refl _, Hid.out (by assumption)⟩)
          case rest =>
            obtain ⟨b5, q5, rfl, rfl, m0, m1, m2, m3, HQ5, hb5, hbc⟩ := hcut
            obtain ⟨V5, hren⟩ : ∃ V5 : World, V5 = wc := ⟨_, rfl⟩
            subst hren
            have k0 := ext_cell hbc.out k0
            have k1 := ext_cell hbc.out k1
            have k2 := ext_cell hbc.out k2
            have k3 := ext_cell hbc.out k3
            have KF5 : Hid (∀ j, V5.frozen? ⟨b1, j, none⟩ = false) := fun j => (hbc.out.frozen (p := ⟨b1, j, none⟩) hsb2.out).trans (KF2.out j)
            have kf := KF5.out
            have B5 : Hid (Below W.heap.size W V5) := grow_trans BV2.out hbc.out
            clear KS p0 p1 d0 c0 c1 c2 KF2
            go_wp2
            go_roundw
            case rel =>
              refine ⟨k + 1, q5, S5, by go_num, by omega, (set_off (by decide) (set_off (by decide) (set_off (by decide) (set_here k0)))), (set_off (by decide) (set_off (by decide) (set_here (set_off (by decide) k1)))), (set_off (by decide) (set_here (set_off (by decide) (set_off (by decide) k2)))), (set_here (set_off (by decide) (set_off (by decide) (set_off (by decide) k3)))), ?_, ?_, HIN, ?_⟩
              · intro j
                simp [kf]
              · exact (((((HQ5.out.set _ 0 _ hsb2.out).set _ 1 _ hsb2.out).set _ 2 _ hsb2.out).set _ 3 _ hsb2.out).low BV2.out.size)
              · exact grow_set (grow_set (grow_set (grow_set B5.out hbb.out _) hbb.out _) hbb.out _) hbb.out _
            case measure => simp [intOf]; omega
end Go.Proofs.YtebjkmknhpgemaaGreat

namespace Go.Proofs.YtebjkmknhpgemaaGreat
open Go.RowKit

theorem staQ_same {S : SA} {q q' : Q4} {w : World} (h1 : S.st.length ≤ 100 ∧ S.rd.length ≤ 100 ∧ S.wr.length ≤ 100 ∧ S.vs.length ≤ 100 ∧ ∀ i, (S.rd.getD i []).length ≤ 100 ∧ (S.wr.getD i []).length ≤ 100 ∧ (S.vs.getD i []).length ≤ 100) (hq : StaQ S q w) (hq' : StaQ S q' w) : Calls Tryz.prog 21 #[.agg #[.slice q.sa q.sn q.sc, .slice q.ra q.rn q.rc, .slice q.wa q.wn q.tc, .slice q.va q.vn q.vc], .agg #[.slice q'.sa q'.sn q'.sc, .slice q'.ra q'.rn q'.rc, .slice q'.wa q'.wn q'.tc, .slice q'.va q'.vn q'.vc]] w fun e w' => e = .returned (.bool true) ∧ Below w.heap.size w w' := by
  obtain ⟨e1, e2, e3, e4, hs⟩ := hq
  obtain ⟨d1, d2, d3, d4, ht⟩ := hq'
  rw [e1, e2, e3, e4, d1, d2, d3, d4]
  obtain ⟨a1, a2, a3, a4, a5⟩ := h1
  exact sameStates_eq q.sa q.ra q.wa q.va q'.sa q'.ra q'.wa q'.va q.sc q.rc q.tc q.vc q'.sc q'.rc q'.tc q'.vc S w hs ht a1 a2 a3 a4 a5
theorem small_nil : SNil.st.length ≤ 100 ∧ SNil.rd.length ≤ 100 ∧ SNil.wr.length ≤ 100 ∧ SNil.vs.length ≤ 100 ∧ ∀ i, (SNil.rd.getD i []).length ≤ 100 ∧ (SNil.wr.getD i []).length ≤ 100 ∧ (SNil.vs.getD i []).length ≤ 100 := ⟨Nat.zero_le _, Nat.zero_le _, Nat.zero_le _, Nat.zero_le _, fun _ => ⟨Nat.zero_le _, Nat.zero_le _, Nat.zero_le _⟩⟩
theorem small_st {m : Int} {l : List TxA} {S : SA} (h : stE m l S = 0) : S.st.length ≤ 100 ∧ S.rd.length ≤ 100 ∧ S.wr.length ≤ 100 ∧ S.vs.length ≤ 100 ∧ ∀ i, (S.rd.getD i []).length ≤ 100 ∧ (S.wr.getD i []).length ≤ 100 ∧ (S.vs.getD i []).length ≤ 100 := by
  obtain ⟨sh, rfl, _, h4, hc, _, hf, _⟩ := stE_zero h
  have f := formB_iff.1 hf
  have h8 := chkL_len hc
  refine ⟨by rw [f.st]; omega, by rw [f.rd]; omega, by rw [f.wr]; omega, by rw [f.vs]; omega, fun i => ?_⟩
  by_cases hi : i < l.length
  · have hr4 : (gX l i).rs.length ≤ 4 := (many_small _ _ _ (chk_parts (chkL_in hc i hi)).1).1
    rw [f.rn i hi, f.wn i hi, f.vn i hi]
    omega
  · have a1 : S.rd.getD i [] = [] := by simp [List.getD, List.getElem?_eq_none (show S.rd.length ≤ i by rw [f.rd]; omega)]
    have a2 : S.wr.getD i [] = [] := by simp [List.getD, List.getElem?_eq_none (show S.wr.length ≤ i by rw [f.wr]; omega)]
    have a3 : S.vs.getD i [] = [] := by simp [List.getD, List.getElem?_eq_none (show S.vs.length ≤ i by rw [f.vs]; omega)]
    rw [a1, a2, a3]
    simp
theorem beg_parts (m : Int) (l : List TxA) (s : List Int) : (¬ planE m l = 0 → begE m l s = planE m l) ∧ (planE m l = 0 → ¬ s.length = 8 → begE m l s = 1) ∧ (planE m l = 0 → s.length = 8 → begE m l s = 0) := by
  unfold begE lenE
  refine ⟨fun h => by simp [firstNZ, h], fun h1 h2 => by rw [h1, if_neg h2]; rfl, fun h1 h2 => by rw [h1, if_pos h2]; rfl⟩

variable (la : Option Addr) (lc : Nat) (l : List TxA) (za : Option Addr) (zc : Nat) (s : List Int) (sa ra wa va : Option Addr) (sc rc tc vc : Nat) (S : SA)

set_option maxRecDepth 100000 in
set_option maxHeartbeats 8000000 in
theorem stepsChecks_walk (m : Int) (w : World) (hl : IsTxs w la l) (hz : IsInts w za s) (hs : Sta w sa ra wa va S) :
    Calls Tryz.prog 3 #[.agg #[.int .i64 m, .slice la l.length lc], .slice za s.length zc, .agg #[.slice sa S.st.length sc, .slice ra S.rd.length rc, .slice wa S.wr.length tc, .slice va S.vs.length vc]] w fun e w' => e = .returned (.bool true) ∧ Below w.heap.size w w' := by
  have hg : Below w.heap.size w ((w.alloc (.cells #[.int .i64 m, .slice la l.length lc] 24)).alloc (.cells #[.slice sa S.st.length sc, .slice ra S.rd.length rc, .slice wa S.wr.length tc, .slice va S.vs.length vc] 29)) := (grow_alloc (grow_alloc (Below.refl _ _) _) _)
  have HG : Hid (Below w.heap.size w ((w.alloc (.cells #[.int .i64 m, .slice la l.length lc] 24)).alloc (.cells #[.slice sa S.st.length sc, .slice ra S.rd.length rc, .slice wa S.wr.length tc, .slice va S.vs.length vc] 29))) := hg
  have HBB : Hid (∀ w, Calls Tryz.prog 20 #[] w fun e w' => e = .returned (.bool true) ∧ Below w.heap.size w w') := stepsBegun_any
  have p0 : ((w.alloc (.cells #[.int .i64 m, .slice la l.length lc] 24)).alloc (.cells #[.slice sa S.st.length sc, .slice ra S.rd.length rc, .slice wa S.wr.length tc, .slice va S.vs.length vc] 29)).cell? ⟨w.heap.size, 0, none⟩ = some (.int .i64 m) := ext_cell (grow_alloc (Below.refl _ _) _) (at_new _ _ 24 _ 0 _ (by first | rfl | simp) rfl)
  have p1 : ((w.alloc (.cells #[.int .i64 m, .slice la l.length lc] 24)).alloc (.cells #[.slice sa S.st.length sc, .slice ra S.rd.length rc, .slice wa S.wr.length tc, .slice va S.vs.length vc] 29)).cell? ⟨w.heap.size, 1, none⟩ = some (.slice la l.length lc) := ext_cell (grow_alloc (Below.refl _ _) _) (at_new _ _ 24 _ 1 _ (by first | rfl | simp) rfl)
  have q0 : ((w.alloc (.cells #[.int .i64 m, .slice la l.length lc] 24)).alloc (.cells #[.slice sa S.st.length sc, .slice ra S.rd.length rc, .slice wa S.wr.length tc, .slice va S.vs.length vc] 29)).cell? ⟨w.heap.size + 1, 0, none⟩ = some (.slice sa S.st.length sc) := ext_cell (Below.refl _ _) (at_new _ _ 29 _ 0 _ (by first | rfl | simp) rfl)
  have q1 : ((w.alloc (.cells #[.int .i64 m, .slice la l.length lc] 24)).alloc (.cells #[.slice sa S.st.length sc, .slice ra S.rd.length rc, .slice wa S.wr.length tc, .slice va S.vs.length vc] 29)).cell? ⟨w.heap.size + 1, 1, none⟩ = some (.slice ra S.rd.length rc) := ext_cell (Below.refl _ _) (at_new _ _ 29 _ 1 _ (by first | rfl | simp) rfl)
  have q2 : ((w.alloc (.cells #[.int .i64 m, .slice la l.length lc] 24)).alloc (.cells #[.slice sa S.st.length sc, .slice ra S.rd.length rc, .slice wa S.wr.length tc, .slice va S.vs.length vc] 29)).cell? ⟨w.heap.size + 1, 2, none⟩ = some (.slice wa S.wr.length tc) := ext_cell (Below.refl _ _) (at_new _ _ 29 _ 2 _ (by first | rfl | simp) rfl)
  have q3 : ((w.alloc (.cells #[.int .i64 m, .slice la l.length lc] 24)).alloc (.cells #[.slice sa S.st.length sc, .slice ra S.rd.length rc, .slice wa S.wr.length tc, .slice va S.vs.length vc] 29)).cell? ⟨w.heap.size + 1, 3, none⟩ = some (.slice va S.vs.length vc) := ext_cell (Below.refl _ _) (at_new _ _ 29 _ 3 _ (by first | rfl | simp) rfl)
  have KEEP : Hid (∀ w', Below ((w.alloc (.cells #[.int .i64 m, .slice la l.length lc] 24)).alloc (.cells #[.slice sa S.st.length sc, .slice ra S.rd.length rc, .slice wa S.wr.length tc, .slice va S.vs.length vc] 29)).heap.size ((w.alloc (.cells #[.int .i64 m, .slice la l.length lc] 24)).alloc (.cells #[.slice sa S.st.length sc, .slice ra S.rd.length rc, .slice wa S.wr.length tc, .slice va S.vs.length vc] 29)) w' → w'.cell? ⟨w.heap.size, 0, none⟩ = some (.int .i64 m) ∧ w'.cell? ⟨w.heap.size, 1, none⟩ = some (.slice la l.length lc) ∧ w'.cell? ⟨w.heap.size + 1, 0, none⟩ = some (.slice sa S.st.length sc) ∧ w'.cell? ⟨w.heap.size + 1, 1, none⟩ = some (.slice ra S.rd.length rc) ∧ w'.cell? ⟨w.heap.size + 1, 2, none⟩ = some (.slice wa S.wr.length tc) ∧ w'.cell? ⟨w.heap.size + 1, 3, none⟩ = some (.slice va S.vs.length vc)) := fun w' hb => ⟨ext_cell hb p0, ext_cell hb p1, ext_cell hb q0, ext_cell hb q1, ext_cell hb q2, ext_cell hb q3⟩
  have CB : Hid (Calls Tryz.prog 14 #[.agg #[.int .i64 m, .slice la l.length lc], .slice za s.length zc] ((w.alloc (.cells #[.int .i64 m, .slice la l.length lc] 24)).alloc (.cells #[.slice sa S.st.length sc, .slice ra S.rd.length rc, .slice wa S.wr.length tc, .slice va S.vs.length vc] 29)) fun e w' => ∃ q : Q4, e = .returned (.tuple #[.agg #[.slice q.sa q.sn q.sc, .slice q.ra q.rn q.rc, .slice q.wa q.wn q.tc, .slice q.va q.vn q.vc], .int .i64 (begE m l s)]) ∧ StaF ((w.alloc (.cells #[.int .i64 m, .slice la l.length lc] 24)).alloc (.cells #[.slice sa S.st.length sc, .slice ra S.rd.length rc, .slice wa S.wr.length tc, .slice va S.vs.length vc] 29)).heap.size (begS m l s) q w' ∧ Below ((w.alloc (.cells #[.int .i64 m, .slice la l.length lc] 24)).alloc (.cells #[.slice sa S.st.length sc, .slice ra S.rd.length rc, .slice wa S.wr.length tc, .slice va S.vs.length vc] 29)).heap.size ((w.alloc (.cells #[.int .i64 m, .slice la l.length lc] 24)).alloc (.cells #[.slice sa S.st.length sc, .slice ra S.rd.length rc, .slice wa S.wr.length tc, .slice va S.vs.length vc] 29)) w') := stepsBegin_any la lc l za zc s m ((w.alloc (.cells #[.int .i64 m, .slice la l.length lc] 24)).alloc (.cells #[.slice sa S.st.length sc, .slice ra S.rd.length rc, .slice wa S.wr.length tc, .slice va S.vs.length vc] 29)) (hl.below hg) (hz.below hg)
  have CV : Hid (∀ w', Below ((w.alloc (.cells #[.int .i64 m, .slice la l.length lc] 24)).alloc (.cells #[.slice sa S.st.length sc, .slice ra S.rd.length rc, .slice wa S.wr.length tc, .slice va S.vs.length vc] 29)).heap.size ((w.alloc (.cells #[.int .i64 m, .slice la l.length lc] 24)).alloc (.cells #[.slice sa S.st.length sc, .slice ra S.rd.length rc, .slice wa S.wr.length tc, .slice va S.vs.length vc] 29)) w' → Calls Tryz.prog 15 #[.agg #[.int .i64 m, .slice la l.length lc], .agg #[.slice sa S.st.length sc, .slice ra S.rd.length rc, .slice wa S.wr.length tc, .slice va S.vs.length vc]] w' fun e w'' => e = .returned (.tuple #[.bool (ovE m l S), .int .i64 (stE m l S)]) ∧ Below w'.heap.size w' w'') := fun w' hb => stepsOver_any la lc l sa ra wa va sc rc tc vc S m w' ((hl.below hg).below hb) ((hs.below hg).below hb)
  have CP : Hid (∀ w', Below ((w.alloc (.cells #[.int .i64 m, .slice la l.length lc] 24)).alloc (.cells #[.slice sa S.st.length sc, .slice ra S.rd.length rc, .slice wa S.wr.length tc, .slice va S.vs.length vc] 29)).heap.size ((w.alloc (.cells #[.int .i64 m, .slice la l.length lc] 24)).alloc (.cells #[.slice sa S.st.length sc, .slice ra S.rd.length rc, .slice wa S.wr.length tc, .slice va S.vs.length vc] 29)) w' → Calls Tryz.prog 16 #[.agg #[.int .i64 m, .slice la l.length lc]] w' fun e w'' => e = .returned (.int .i64 (planE m l)) ∧ Below w'.heap.size w' w'') := fun w' hb => checkPlan_any la lc l m w' ((hl.below hg).below hb)
  have CI : Hid (∀ w', Calls Tryz.prog 17 #[.slice za s.length zc] w' fun e w'' => e = .returned (.bool (decide (s.length = 8))) ∧ w'' = w') := fun w' => isStore_any s za zc w'
  have CD : Hid (begE m l s = 0 → ∀ w', Below ((w.alloc (.cells #[.int .i64 m, .slice la l.length lc] 24)).alloc (.cells #[.slice sa S.st.length sc, .slice ra S.rd.length rc, .slice wa S.wr.length tc, .slice va S.vs.length vc] 29)).heap.size ((w.alloc (.cells #[.int .i64 m, .slice la l.length lc] 24)).alloc (.cells #[.slice sa S.st.length sc, .slice ra S.rd.length rc, .slice wa S.wr.length tc, .slice va S.vs.length vc] 29)) w' → Calls Tryz.prog 18 #[.agg #[.int .i64 m, .slice la l.length lc], .slice za s.length zc] w' fun e w'' => ∃ q : Q4, e = .returned (.agg #[.slice q.sa q.sn q.sc, .slice q.ra q.rn q.rc, .slice q.wa q.wn q.tc, .slice q.va q.vn q.vc]) ∧ StaF w'.heap.size (begS m l s) q w'' ∧ Below w'.heap.size w' w'') := fun h w' hb => by
    obtain ⟨hp, h8⟩ := beg_zero h
    have e : begS m l s = begX m.toNat l s := if_pos h
    rw [e]
    obtain ⟨h1, _, _⟩ := planE_zero hp
    obtain ⟨sh, rfl⟩ : ∃ sh : Nat, m = sh := ⟨m.toNat, by omega⟩
    exact docBegin_any la lc l za zc s sh w' ((hl.below hg).below hb) ((hz.below hg).below hb) hp h8
  have CS : Hid (∀ w', Below ((w.alloc (.cells #[.int .i64 m, .slice la l.length lc] 24)).alloc (.cells #[.slice sa S.st.length sc, .slice ra S.rd.length rc, .slice wa S.wr.length tc, .slice va S.vs.length vc] 29)).heap.size ((w.alloc (.cells #[.int .i64 m, .slice la l.length lc] 24)).alloc (.cells #[.slice sa S.st.length sc, .slice ra S.rd.length rc, .slice wa S.wr.length tc, .slice va S.vs.length vc] 29)) w' → Calls Tryz.prog 19 #[.agg #[.int .i64 m, .slice la l.length lc], .agg #[.slice sa S.st.length sc, .slice ra S.rd.length rc, .slice wa S.wr.length tc, .slice va S.vs.length vc]] w' fun e w'' => e = .returned (.int .i64 (stE m l S)) ∧ Below w'.heap.size w' w'') := fun w' hb => docCheck_any la lc l sa ra wa va sc rc tc vc S m w' ((hl.below hg).below hb) ((hs.below hg).below hb)
  have CC : Hid (∀ w', Below ((w.alloc (.cells #[.int .i64 m, .slice la l.length lc] 24)).alloc (.cells #[.slice sa S.st.length sc, .slice ra S.rd.length rc, .slice wa S.wr.length tc, .slice va S.vs.length vc] 29)).heap.size ((w.alloc (.cells #[.int .i64 m, .slice la l.length lc] 24)).alloc (.cells #[.slice sa S.st.length sc, .slice ra S.rd.length rc, .slice wa S.wr.length tc, .slice va S.vs.length vc] 29)) w' → Calls Tryz.prog 22 #[.agg #[.int .i64 m, .slice la l.length lc], .agg #[.slice sa S.st.length sc, .slice ra S.rd.length rc, .slice wa S.wr.length tc, .slice va S.vs.length vc]] w' fun e w'' => e = .returned (.int .i64 (stE m l S)) ∧ Below w'.heap.size w' w'') := fun w' hb => stepsCheck_any la lc l sa ra wa va sc rc tc vc S m w' ((hl.below hg).below hb) ((hs.below hg).below hb)
  have HO1 : Hid (¬ stE m l S = 0 → ovE m l S = false) := fun h => if_neg h
  have HO2 : Hid (stE m l S = 0 → ∀ w', Below ((w.alloc (.cells #[.int .i64 m, .slice la l.length lc] 24)).alloc (.cells #[.slice sa S.st.length sc, .slice ra S.rd.length rc, .slice wa S.wr.length tc, .slice va S.vs.length vc] 29)).heap.size ((w.alloc (.cells #[.int .i64 m, .slice la l.length lc] 24)).alloc (.cells #[.slice sa S.st.length sc, .slice ra S.rd.length rc, .slice wa S.wr.length tc, .slice va S.vs.length vc] 29)) w' → Calls Tryz.prog 23 #[.agg #[.int .i64 m, .slice la l.length lc], .agg #[.slice sa S.st.length sc, .slice ra S.rd.length rc, .slice wa S.wr.length tc, .slice va S.vs.length vc]] w' fun e w'' => e = .returned (.bool (ovE m l S)) ∧ Below w'.heap.size w' w'') := fun h w' hb => by
    have e : ovE m l S = overB m.toNat l S := if_pos h
    rw [e]
    obtain ⟨sh, rfl, _, _, _, hp, hf, _⟩ := stE_zero h
    exact docOver_any la lc l sa ra wa va sc rc tc vc S sh w' ((hl.below hg).below hb) ((hs.below hg).below hb) hp (formB_iff.1 hf)
  have CE : Hid (∀ (q q' : Q4) w', StaQ (begS m l s) q w' → StaQ (begS m l s) q' w' → Calls Tryz.prog 21 #[.agg #[.slice q.sa q.sn q.sc, .slice q.ra q.rn q.rc, .slice q.wa q.wn q.tc, .slice q.va q.vn q.vc], .agg #[.slice q'.sa q'.sn q'.sc, .slice q'.ra q'.rn q'.rc, .slice q'.wa q'.wn q'.tc, .slice q'.va q'.vn q'.vc]] w' fun e w'' => e = .returned (.bool true) ∧ Below w'.heap.size w' w'') := fun q q' w' h1 h2 => by
    refine staQ_same ?_ h1 h2
    by_cases h : begE m l s = 0
    · exact small_st (inv_st (beg_zero h).1 (beg_inv h))
    · have e : begS m l s = SNil := if_neg h
      rw [e]
      exact small_nil
  have HN : Hid (¬ begE m l s = 0 → begS m l s = SNil) := fun h => if_neg h
  obtain ⟨HEA, HEB, HEC⟩ := beg_parts m l s
  clear hl hs hg hz p0 p1 q0 q1 q2 q3
  generalize stE m l S = X at *
  generalize ovE m l S = O at *
  generalize begS m l s = SB at *
  generalize begE m l s = E at *
  generalize planE m l = Pe at *
  go_enter Tryz.func3, Tryz.ntmps3
  go_upto_region 1 with fail
  generalize ((w.alloc (.cells #[.int .i64 m, .slice la l.length lc] 24)).alloc (.cells #[.slice sa S.st.length sc, .slice ra S.rd.length rc, .slice wa S.wr.length tc, .slice va S.vs.length vc] 29)) = W at *
  obtain ⟨p0, p1, q0, q1, q2, q3⟩ := KEEP.out W (Below.refl _ _)
  go_wp2_with fail
  refine CB.out.mono ?_
  rintro e w1 ⟨q, rfl, hq, hb1⟩
  have gA : Below w1.heap.size w1 (w1.alloc (.cells #[.slice q.sa q.sn q.sc, .slice q.ra q.rn q.rc, .slice q.wa q.wn q.tc, .slice q.va q.vn q.vc] 29)) := grow_alloc (Below.refl _ _) _
  have BV1 : Hid (Below W.heap.size W (w1.alloc (.cells #[.slice q.sa q.sn q.sc, .slice q.ra q.rn q.rc, .slice q.wa q.wn q.tc, .slice q.va q.vn q.vc] 29))) := grow_trans hb1 gA
  have HQ1 : Hid (StaQ SB q (w1.alloc (.cells #[.slice q.sa q.sn q.sc, .slice q.ra q.rn q.rc, .slice q.wa q.wn q.tc, .slice q.va q.vn q.vc] 29))) := hq.sta.below gA
  have HF1 : Hid (StaF W.heap.size SB q (w1.alloc (.cells #[.slice q.sa q.sn q.sc, .slice q.ra q.rn q.rc, .slice q.wa q.wn q.tc, .slice q.va q.vn q.vc] 29))) := hq.below gA
  have k0 : (w1.alloc (.cells #[.slice q.sa q.sn q.sc, .slice q.ra q.rn q.rc, .slice q.wa q.wn q.tc, .slice q.va q.vn q.vc] 29)).cell? ⟨w1.heap.size, 0, none⟩ = some (.slice q.sa q.sn q.sc) := at_new _ _ 29 _ 0 _ rfl rfl
  have k1 : (w1.alloc (.cells #[.slice q.sa q.sn q.sc, .slice q.ra q.rn q.rc, .slice q.wa q.wn q.tc, .slice q.va q.vn q.vc] 29)).cell? ⟨w1.heap.size, 1, none⟩ = some (.slice q.ra q.rn q.rc) := at_new _ _ 29 _ 1 _ rfl rfl
  have k2 : (w1.alloc (.cells #[.slice q.sa q.sn q.sc, .slice q.ra q.rn q.rc, .slice q.wa q.wn q.tc, .slice q.va q.vn q.vc] 29)).cell? ⟨w1.heap.size, 2, none⟩ = some (.slice q.wa q.wn q.tc) := at_new _ _ 29 _ 2 _ rfl rfl
  have k3 : (w1.alloc (.cells #[.slice q.sa q.sn q.sc, .slice q.ra q.rn q.rc, .slice q.wa q.wn q.tc, .slice q.va q.vn q.vc] 29)).cell? ⟨w1.heap.size, 3, none⟩ = some (.slice q.va q.vn q.vc) := at_new _ _ 29 _ 3 _ rfl rfl
  clear hb1 gA hq CB p0 p1 q0 q1 q2 q3
  go_upto_region 2 with fail
  generalize w1.alloc (.cells #[.slice q.sa q.sn q.sc, .slice q.ra q.rn q.rc, .slice q.wa q.wn q.tc, .slice q.va q.vn q.vc] 29) = V1 at *
  have DV1 : Hid (Below V1.heap.size V1 V1) := Below.refl _ _
  generalize w1.heap.size = b1 at *
  obtain ⟨p0, p1, q0, q1, q2, q3⟩ := KEEP.out V1 BV1.out
  have KK : Hid (V1.cell? ⟨b1, 0, none⟩ = some (.slice q.sa q.sn q.sc) ∧ V1.cell? ⟨b1, 1, none⟩ = some (.slice q.ra q.rn q.rc) ∧ V1.cell? ⟨b1, 2, none⟩ = some (.slice q.wa q.wn q.tc) ∧ V1.cell? ⟨b1, 3, none⟩ = some (.slice q.va q.vn q.vc)) := ⟨k0, k1, k2, k3⟩
  go_wp2_with fail
  refine (CV.out _ BV1.out).mono ?_
  rintro e w2 ⟨rfl, hbx⟩
  have Bw2 : Hid (Below W.heap.size W w2) := grow_trans BV1.out hbx
  have Dw2 : Hid (Below V1.heap.size V1 w2) := grow_trans DV1.out hbx
  have p0 := ext_cell hbx p0
  have p1 := ext_cell hbx p1
  have q0 := ext_cell hbx q0
  have q1 := ext_cell hbx q1
  have q2 := ext_cell hbx q2
  have q3 := ext_cell hbx q3
  have k0 := ext_cell hbx k0
  have k1 := ext_cell hbx k1
  have k2 := ext_cell hbx k2
  have k3 := ext_cell hbx k3
  have HQ2 : Hid (StaQ SB q w2) := HQ1.out.below hbx
  clear hbx
  go_wp2_with fail
  refine (CP.out _ Bw2.out).mono ?_
  rintro e w3 ⟨rfl, hbx⟩
  have Bw3 : Hid (Below W.heap.size W w3) := grow_trans Bw2.out hbx
  have Dw3 : Hid (Below V1.heap.size V1 w3) := grow_trans Dw2.out hbx
  have p0 := ext_cell hbx p0
  have p1 := ext_cell hbx p1
  have q0 := ext_cell hbx q0
  have q1 := ext_cell hbx q1
  have q2 := ext_cell hbx q2
  have q3 := ext_cell hbx q3
  have k0 := ext_cell hbx k0
  have k1 := ext_cell hbx k1
  have k2 := ext_cell hbx k2
  have k3 := ext_cell hbx k3
  have HQ3 : Hid (StaQ SB q w3) := HQ2.out.below hbx
  clear hbx
  clear CV CP HQ1 HQ2
  go_upto_region 4 with fail
  by_cases hP : Pe = 0
  rotate_left
  · have hb : (Pe == 0) = false := by simpa using hP
    obtain rfl : E = Pe := HEA hP
    obtain rfl : SB = SNil := HN.out hP
    have HQ0 := HQ3
    go_upto_region 6 with fail
    have gN : Below w3.heap.size w3 (w3.alloc (.cells #[.slice none 0 0, .slice none 0 0, .slice none 0 0, .slice none 0 0] 29)) := grow_alloc (Below.refl _ _) _
    have BV : Hid (Below W.heap.size W (w3.alloc (.cells #[.slice none 0 0, .slice none 0 0, .slice none 0 0, .slice none 0 0] 29))) := grow_trans Bw3.out gN
    have DV : Hid (Below V1.heap.size V1 (w3.alloc (.cells #[.slice none 0 0, .slice none 0 0, .slice none 0 0, .slice none 0 0] 29))) := grow_trans Dw3.out gN
    have HQ : Hid (StaQ SNil q (w3.alloc (.cells #[.slice none 0 0, .slice none 0 0, .slice none 0 0, .slice none 0 0] 29))) := HQ0.out.below gN
    have p0 := ext_cell gN p0
    have p1 := ext_cell gN p1
    have q0 := ext_cell gN q0
    have q1 := ext_cell gN q1
    have q2 := ext_cell gN q2
    have q3 := ext_cell gN q3
    have k0 := ext_cell gN k0
    have k1 := ext_cell gN k1
    have k2 := ext_cell gN k2
    have k3 := ext_cell gN k3
    have m0 : (w3.alloc (.cells #[.slice none 0 0, .slice none 0 0, .slice none 0 0, .slice none 0 0] 29)).cell? ⟨w3.heap.size, 0, none⟩ = some (.slice none 0 0) := at_new _ _ 29 _ 0 _ rfl rfl
    have m1 : (w3.alloc (.cells #[.slice none 0 0, .slice none 0 0, .slice none 0 0, .slice none 0 0] 29)).cell? ⟨w3.heap.size, 1, none⟩ = some (.slice none 0 0) := at_new _ _ 29 _ 1 _ rfl rfl
    have m2 : (w3.alloc (.cells #[.slice none 0 0, .slice none 0 0, .slice none 0 0, .slice none 0 0] 29)).cell? ⟨w3.heap.size, 2, none⟩ = some (.slice none 0 0) := at_new _ _ 29 _ 2 _ rfl rfl
    have m3 : (w3.alloc (.cells #[.slice none 0 0, .slice none 0 0, .slice none 0 0, .slice none 0 0] 29)).cell? ⟨w3.heap.size, 3, none⟩ = some (.slice none 0 0) := at_new _ _ 29 _ 3 _ rfl rfl
    have MF : Hid (∀ j, (w3.alloc (.cells #[.slice none 0 0, .slice none 0 0, .slice none 0 0, .slice none 0 0] 29)).frozen? ⟨w3.heap.size, j, none⟩ = false) := fun j => frozen_new _ _ 29 _ j rfl
    clear gN HQ0
    go_upto_region 9 with fail
    generalize (w3.alloc (.cells #[.slice none 0 0, .slice none 0 0, .slice none 0 0, .slice none 0 0] 29)) = V at *
    generalize w3.heap.size = b2 at *
    have HR : Hid (StaQ SNil qNil V) := staQ_nil V
    clear CD HN HEA HEB HEC CI MF HQ3
    obtain ⟨qw, hqw⟩ : ∃ qw, qw = qNil := ⟨_, rfl⟩
    have m0 : V.cell? ⟨b2, 0, none⟩ = some (.slice qw.sa qw.sn qw.sc) := by rw [hqw]; exact m0
    have m1 : V.cell? ⟨b2, 1, none⟩ = some (.slice qw.ra qw.rn qw.rc) := by rw [hqw]; exact m1
    have m2 : V.cell? ⟨b2, 2, none⟩ = some (.slice qw.wa qw.wn qw.tc) := by rw [hqw]; exact m2
    have m3 : V.cell? ⟨b2, 3, none⟩ = some (.slice qw.va qw.vn qw.vc) := by rw [hqw]; exact m3
    rw [← hqw] at HR
    clear hqw
    go_wp2_with fail
    refine (CS.out _ BV.out).mono ?_
    rintro e w5 ⟨rfl, hbx⟩
    have Bw5 : Hid (Below W.heap.size W w5) := grow_trans BV.out hbx
    have Dw5 : Hid (Below V1.heap.size V1 w5) := grow_trans DV.out hbx
    have p0 := ext_cell hbx p0
    have p1 := ext_cell hbx p1
    have q0 := ext_cell hbx q0
    have q1 := ext_cell hbx q1
    have q2 := ext_cell hbx q2
    have q3 := ext_cell hbx q3
    have k0 := ext_cell hbx k0
    have k1 := ext_cell hbx k1
    have k2 := ext_cell hbx k2
    have k3 := ext_cell hbx k3
    have m0 := ext_cell hbx m0
    have m1 := ext_cell hbx m1
    have m2 := ext_cell hbx m2
    have m3 := ext_cell hbx m3
    have HQ5 : Hid (StaQ SNil q w5) := HQ.out.below hbx
    have HR5 : Hid (StaQ SNil qw w5) := HR.out.below hbx
    clear hbx
    go_wp2_with fail
    refine (HBB.out _).mono ?_
    rintro e w6 ⟨rfl, hbx⟩
    have Bw6 : Hid (Below W.heap.size W w6) := grow_trans Bw5.out hbx
    have Dw6 : Hid (Below V1.heap.size V1 w6) := grow_trans Dw5.out hbx
    have p0 := ext_cell hbx p0
    have p1 := ext_cell hbx p1
    have q0 := ext_cell hbx q0
    have q1 := ext_cell hbx q1
    have q2 := ext_cell hbx q2
    have q3 := ext_cell hbx q3
    have k0 := ext_cell hbx k0
    have k1 := ext_cell hbx k1
    have k2 := ext_cell hbx k2
    have k3 := ext_cell hbx k3
    have m0 := ext_cell hbx m0
    have m1 := ext_cell hbx m1
    have m2 := ext_cell hbx m2
    have m3 := ext_cell hbx m3
    have HQ6 : Hid (StaQ SNil q w6) := HQ5.out.below hbx
    have HR6 : Hid (StaQ SNil qw w6) := HR5.out.below hbx
    clear hbx
    go_wp2_with fail
    refine (CE.out q qw w6 HQ6.out HR6.out).mono ?_
    rintro e w7 ⟨rfl, hbx⟩
    have Bw7 : Hid (Below W.heap.size W w7) := grow_trans Bw6.out hbx
    have Dw7 : Hid (Below V1.heap.size V1 w7) := grow_trans Dw6.out hbx
    have p0 := ext_cell hbx p0
    have p1 := ext_cell hbx p1
    have q0 := ext_cell hbx q0
    have q1 := ext_cell hbx q1
    have q2 := ext_cell hbx q2
    have q3 := ext_cell hbx q3
    clear hbx
    go_wp2_with fail
    refine (CC.out _ Bw7.out).mono ?_
    rintro e w8 ⟨rfl, hbx⟩
    have Bw8 : Hid (Below W.heap.size W w8) := grow_trans Bw7.out hbx
    have Dw8 : Hid (Below V1.heap.size V1 w8) := grow_trans Dw7.out hbx
    have p0 := ext_cell hbx p0
    have p1 := ext_cell hbx p1
    have q0 := ext_cell hbx q0
    have q1 := ext_cell hbx q1
    have q2 := ext_cell hbx q2
    have q3 := ext_cell hbx q3
    clear hbx
    by_cases hX : X = 0
    rotate_left
    · have hb : (X == 0) = false := by simpa using hX
      obtain rfl : O = false := HO1.out hX
      have BW : Hid (Below w.heap.size w w8) := grow_trans HG.out Bw8.out
      clear HO1 HO2
      go_wp2
      go_ret
      exact ⟨by simp, BW.out⟩
    · subst hX
      have CO := HO2.out rfl
      go_wp2_with fail
      refine (CO _ Bw8.out).mono ?_
      rintro e w9 ⟨rfl, hbx⟩
      have Bw9 : Hid (Below W.heap.size W w9) := grow_trans Bw8.out hbx
      have Dw9 : Hid (Below V1.heap.size V1 w9) := grow_trans Dw8.out hbx
      clear hbx
      have BW : Hid (Below w.heap.size w w9) := grow_trans HG.out Bw9.out
      go_wp2
      go_ret
      exact ⟨by simp, BW.out⟩

  · subst hP
    by_cases h8 : s.length = 8
    rotate_left
    · obtain rfl : E = 1 := HEB rfl h8
      obtain rfl : SB = SNil := HN.out (by decide)
      have HQ0 := HQ3
      have CI' : Hid (∀ w', Calls Tryz.prog 17 #[.slice za s.length zc] w' fun e w'' => e = .returned (.bool false) ∧ w'' = w') := by
        have h := CI.out
        rw [decide_eq_false h8] at h
        exact h
      go_upto_region 6 with (go_at_call 17; refine (CI'.out _).mono ?_; rintro e w2 ⟨rfl, e2⟩; have e3 := e2.symm; subst e3)
      have gN : Below w3.heap.size w3 (w3.alloc (.cells #[.slice none 0 0, .slice none 0 0, .slice none 0 0, .slice none 0 0] 29)) := grow_alloc (Below.refl _ _) _
      have BV : Hid (Below W.heap.size W (w3.alloc (.cells #[.slice none 0 0, .slice none 0 0, .slice none 0 0, .slice none 0 0] 29))) := grow_trans Bw3.out gN
      have DV : Hid (Below V1.heap.size V1 (w3.alloc (.cells #[.slice none 0 0, .slice none 0 0, .slice none 0 0, .slice none 0 0] 29))) := grow_trans Dw3.out gN
      have HQ : Hid (StaQ SNil q (w3.alloc (.cells #[.slice none 0 0, .slice none 0 0, .slice none 0 0, .slice none 0 0] 29))) := HQ0.out.below gN
      have p0 := ext_cell gN p0
      have p1 := ext_cell gN p1
      have q0 := ext_cell gN q0
      have q1 := ext_cell gN q1
      have q2 := ext_cell gN q2
      have q3 := ext_cell gN q3
      have k0 := ext_cell gN k0
      have k1 := ext_cell gN k1
      have k2 := ext_cell gN k2
      have k3 := ext_cell gN k3
      have m0 : (w3.alloc (.cells #[.slice none 0 0, .slice none 0 0, .slice none 0 0, .slice none 0 0] 29)).cell? ⟨w3.heap.size, 0, none⟩ = some (.slice none 0 0) := at_new _ _ 29 _ 0 _ rfl rfl
      have m1 : (w3.alloc (.cells #[.slice none 0 0, .slice none 0 0, .slice none 0 0, .slice none 0 0] 29)).cell? ⟨w3.heap.size, 1, none⟩ = some (.slice none 0 0) := at_new _ _ 29 _ 1 _ rfl rfl
      have m2 : (w3.alloc (.cells #[.slice none 0 0, .slice none 0 0, .slice none 0 0, .slice none 0 0] 29)).cell? ⟨w3.heap.size, 2, none⟩ = some (.slice none 0 0) := at_new _ _ 29 _ 2 _ rfl rfl
      have m3 : (w3.alloc (.cells #[.slice none 0 0, .slice none 0 0, .slice none 0 0, .slice none 0 0] 29)).cell? ⟨w3.heap.size, 3, none⟩ = some (.slice none 0 0) := at_new _ _ 29 _ 3 _ rfl rfl
      have MF : Hid (∀ j, (w3.alloc (.cells #[.slice none 0 0, .slice none 0 0, .slice none 0 0, .slice none 0 0] 29)).frozen? ⟨w3.heap.size, j, none⟩ = false) := fun j => frozen_new _ _ 29 _ j rfl
      clear gN HQ0
      go_upto_region 9 with fail
      generalize (w3.alloc (.cells #[.slice none 0 0, .slice none 0 0, .slice none 0 0, .slice none 0 0] 29)) = V at *
      generalize w3.heap.size = b2 at *
      clear CI' h8
      have HR : Hid (StaQ SNil qNil V) := staQ_nil V
      clear CD HN HEA HEB HEC CI MF HQ3
      obtain ⟨qw, hqw⟩ : ∃ qw, qw = qNil := ⟨_, rfl⟩
      have m0 : V.cell? ⟨b2, 0, none⟩ = some (.slice qw.sa qw.sn qw.sc) := by rw [hqw]; exact m0
      have m1 : V.cell? ⟨b2, 1, none⟩ = some (.slice qw.ra qw.rn qw.rc) := by rw [hqw]; exact m1
      have m2 : V.cell? ⟨b2, 2, none⟩ = some (.slice qw.wa qw.wn qw.tc) := by rw [hqw]; exact m2
      have m3 : V.cell? ⟨b2, 3, none⟩ = some (.slice qw.va qw.vn qw.vc) := by rw [hqw]; exact m3
      rw [← hqw] at HR
      clear hqw
      go_wp2_with fail
      refine (CS.out _ BV.out).mono ?_
      rintro e w5 ⟨rfl, hbx⟩
      have Bw5 : Hid (Below W.heap.size W w5) := grow_trans BV.out hbx
      have Dw5 : Hid (Below V1.heap.size V1 w5) := grow_trans DV.out hbx
      have p0 := ext_cell hbx p0
      have p1 := ext_cell hbx p1
      have q0 := ext_cell hbx q0
      have q1 := ext_cell hbx q1
      have q2 := ext_cell hbx q2
      have q3 := ext_cell hbx q3
      have k0 := ext_cell hbx k0
      have k1 := ext_cell hbx k1
      have k2 := ext_cell hbx k2
      have k3 := ext_cell hbx k3
      have m0 := ext_cell hbx m0
      have m1 := ext_cell hbx m1
      have m2 := ext_cell hbx m2
      have m3 := ext_cell hbx m3
      have HQ5 : Hid (StaQ SNil q w5) := HQ.out.below hbx
      have HR5 : Hid (StaQ SNil qw w5) := HR.out.below hbx
      clear hbx
      go_wp2_with fail
      refine (HBB.out _).mono ?_
      rintro e w6 ⟨rfl, hbx⟩
      have Bw6 : Hid (Below W.heap.size W w6) := grow_trans Bw5.out hbx
      have Dw6 : Hid (Below V1.heap.size V1 w6) := grow_trans Dw5.out hbx
      have p0 := ext_cell hbx p0
      have p1 := ext_cell hbx p1
      have q0 := ext_cell hbx q0
      have q1 := ext_cell hbx q1
      have q2 := ext_cell hbx q2
      have q3 := ext_cell hbx q3
      have k0 := ext_cell hbx k0
      have k1 := ext_cell hbx k1
      have k2 := ext_cell hbx k2
      have k3 := ext_cell hbx k3
      have m0 := ext_cell hbx m0
      have m1 := ext_cell hbx m1
      have m2 := ext_cell hbx m2
      have m3 := ext_cell hbx m3
      have HQ6 : Hid (StaQ SNil q w6) := HQ5.out.below hbx
      have HR6 : Hid (StaQ SNil qw w6) := HR5.out.below hbx
      clear hbx
      go_wp2_with fail
      refine (CE.out q qw w6 HQ6.out HR6.out).mono ?_
      rintro e w7 ⟨rfl, hbx⟩
      have Bw7 : Hid (Below W.heap.size W w7) := grow_trans Bw6.out hbx
      have Dw7 : Hid (Below V1.heap.size V1 w7) := grow_trans Dw6.out hbx
      have p0 := ext_cell hbx p0
      have p1 := ext_cell hbx p1
      have q0 := ext_cell hbx q0
      have q1 := ext_cell hbx q1
      have q2 := ext_cell hbx q2
      have q3 := ext_cell hbx q3
      clear hbx
      go_wp2_with fail
      refine (CC.out _ Bw7.out).mono ?_
      rintro e w8 ⟨rfl, hbx⟩
      have Bw8 : Hid (Below W.heap.size W w8) := grow_trans Bw7.out hbx
      have Dw8 : Hid (Below V1.heap.size V1 w8) := grow_trans Dw7.out hbx
      have p0 := ext_cell hbx p0
      have p1 := ext_cell hbx p1
      have q0 := ext_cell hbx q0
      have q1 := ext_cell hbx q1
      have q2 := ext_cell hbx q2
      have q3 := ext_cell hbx q3
      clear hbx
      by_cases hX : X = 0
      rotate_left
      · have hb : (X == 0) = false := by simpa using hX
        obtain rfl : O = false := HO1.out hX
        have BW : Hid (Below w.heap.size w w8) := grow_trans HG.out Bw8.out
        clear HO1 HO2
        go_wp2
        go_ret
        exact ⟨by simp, BW.out⟩
      · subst hX
        have CO := HO2.out rfl
        go_wp2_with fail
        refine (CO _ Bw8.out).mono ?_
        rintro e w9 ⟨rfl, hbx⟩
        have Bw9 : Hid (Below W.heap.size W w9) := grow_trans Bw8.out hbx
        have Dw9 : Hid (Below V1.heap.size V1 w9) := grow_trans Dw8.out hbx
        clear hbx
        have BW : Hid (Below w.heap.size w w9) := grow_trans HG.out Bw9.out
        go_wp2
        go_ret
        exact ⟨by simp, BW.out⟩

    · obtain rfl : E = 0 := HEC rfl h8
      have HQ0 := HQ3
      have CI' : Hid (∀ w', Calls Tryz.prog 17 #[.slice za s.length zc] w' fun e w'' => e = .returned (.bool true) ∧ w'' = w') := by
        have h := CI.out
        rw [decide_eq_true h8] at h
        exact h
      have CD1 := CD.out rfl
      clear h8 CD
      go_upto_region 6 with (go_at_call 17; refine (CI'.out _).mono ?_; rintro e w2 ⟨rfl, e2⟩; have e3 := e2.symm; subst e3)
      have gN : Below w3.heap.size w3 (w3.alloc (.cells #[.slice none 0 0, .slice none 0 0, .slice none 0 0, .slice none 0 0] 29)) := grow_alloc (Below.refl _ _) _
      have BV : Hid (Below W.heap.size W (w3.alloc (.cells #[.slice none 0 0, .slice none 0 0, .slice none 0 0, .slice none 0 0] 29))) := grow_trans Bw3.out gN
      have DV : Hid (Below V1.heap.size V1 (w3.alloc (.cells #[.slice none 0 0, .slice none 0 0, .slice none 0 0, .slice none 0 0] 29))) := grow_trans Dw3.out gN
      have HQ : Hid (StaQ SB q (w3.alloc (.cells #[.slice none 0 0, .slice none 0 0, .slice none 0 0, .slice none 0 0] 29))) := HQ0.out.below gN
      have p0 := ext_cell gN p0
      have p1 := ext_cell gN p1
      have q0 := ext_cell gN q0
      have q1 := ext_cell gN q1
      have q2 := ext_cell gN q2
      have q3 := ext_cell gN q3
      have k0 := ext_cell gN k0
      have k1 := ext_cell gN k1
      have k2 := ext_cell gN k2
      have k3 := ext_cell gN k3
      have m0 : (w3.alloc (.cells #[.slice none 0 0, .slice none 0 0, .slice none 0 0, .slice none 0 0] 29)).cell? ⟨w3.heap.size, 0, none⟩ = some (.slice none 0 0) := at_new _ _ 29 _ 0 _ rfl rfl
      have m1 : (w3.alloc (.cells #[.slice none 0 0, .slice none 0 0, .slice none 0 0, .slice none 0 0] 29)).cell? ⟨w3.heap.size, 1, none⟩ = some (.slice none 0 0) := at_new _ _ 29 _ 1 _ rfl rfl
      have m2 : (w3.alloc (.cells #[.slice none 0 0, .slice none 0 0, .slice none 0 0, .slice none 0 0] 29)).cell? ⟨w3.heap.size, 2, none⟩ = some (.slice none 0 0) := at_new _ _ 29 _ 2 _ rfl rfl
      have m3 : (w3.alloc (.cells #[.slice none 0 0, .slice none 0 0, .slice none 0 0, .slice none 0 0] 29)).cell? ⟨w3.heap.size, 3, none⟩ = some (.slice none 0 0) := at_new _ _ 29 _ 3 _ rfl rfl
      have MF : Hid (∀ j, (w3.alloc (.cells #[.slice none 0 0, .slice none 0 0, .slice none 0 0, .slice none 0 0] 29)).frozen? ⟨w3.heap.size, j, none⟩ = false) := fun j => frozen_new _ _ 29 _ j rfl
      clear gN HQ0
      go_upto_region 8 with fail
      generalize (w3.alloc (.cells #[.slice none 0 0, .slice none 0 0, .slice none 0 0, .slice none 0 0] 29)) = V0 at *
      have hb2 : Hid (w3.heap.size < V0.heap.size) := World.block_lt_of_cell? V0 ⟨w3.heap.size, 0, none⟩ m0
      have hb3 : Hid (W.heap.size ≤ w3.heap.size) := Bw3.out.size
      have hb4 : Hid (V1.heap.size ≤ w3.heap.size) := Dw3.out.size
      generalize w3.heap.size = b2 at *
      clear CI' CI HEA HEB HEC HN HQ3
      go_wp2_with fail
      refine (CD1 _ BV.out).mono ?_
      rintro e w4 ⟨qw, rfl, hqw, hbx⟩
      have BX : Hid (Below W.heap.size W ((((w4.setCell ⟨b2, 0, none⟩ (.slice qw.sa qw.sn qw.sc)).setCell ⟨b2, 1, none⟩ (.slice qw.ra qw.rn qw.rc)).setCell ⟨b2, 2, none⟩ (.slice qw.wa qw.wn qw.tc)).setCell ⟨b2, 3, none⟩ (.slice qw.va qw.vn qw.vc))) := grow_set (grow_set (grow_set (grow_set (grow_trans BV.out hbx) hb3.out _) hb3.out _) hb3.out _) hb3.out _
      have HR : Hid (StaQ SB qw ((((w4.setCell ⟨b2, 0, none⟩ (.slice qw.sa qw.sn qw.sc)).setCell ⟨b2, 1, none⟩ (.slice qw.ra qw.rn qw.rc)).setCell ⟨b2, 2, none⟩ (.slice qw.wa qw.wn qw.tc)).setCell ⟨b2, 3, none⟩ (.slice qw.va qw.vn qw.vc))) := ((((hqw.set _ 0 _ hb2.out).set _ 1 _ hb2.out).set _ 2 _ hb2.out).set _ 3 _ hb2.out).sta
      have DX : Hid (Below V1.heap.size V1 ((((w4.setCell ⟨b2, 0, none⟩ (.slice qw.sa qw.sn qw.sc)).setCell ⟨b2, 1, none⟩ (.slice qw.ra qw.rn qw.rc)).setCell ⟨b2, 2, none⟩ (.slice qw.wa qw.wn qw.tc)).setCell ⟨b2, 3, none⟩ (.slice qw.va qw.vn qw.vc))) := grow_set (grow_set (grow_set (grow_set (grow_trans DV.out hbx) hb4.out _) hb4.out _) hb4.out _) hb4.out _
      have HQ : Hid (StaQ SB q ((((w4.setCell ⟨b2, 0, none⟩ (.slice qw.sa qw.sn qw.sc)).setCell ⟨b2, 1, none⟩ (.slice qw.ra qw.rn qw.rc)).setCell ⟨b2, 2, none⟩ (.slice qw.wa qw.wn qw.tc)).setCell ⟨b2, 3, none⟩ (.slice qw.va qw.vn qw.vc))) := (HF1.out.below DX.out).sta
      obtain ⟨x0, x1, x2, x3⟩ := put4 qw (ext_cell hbx m0) (ext_cell hbx m1) (ext_cell hbx m2) (ext_cell hbx m3)
      have mf : ∀ j, w4.frozen? ⟨b2, j, none⟩ = false := fun j => (hbx.frozen (p := ⟨b2, j, none⟩) hb2.out).trans (MF.out j)
      have m0 := ext_cell hbx m0
      have m1 := ext_cell hbx m1
      have m2 := ext_cell hbx m2
      have m3 := ext_cell hbx m3
      clear hbx hqw HF1 p0 p1 q0 q1 q2 q3 k0 k1 k2 k3 CD1
      go_upto_region 9 with fail
      obtain ⟨p0, p1, q0, q1, q2, q3⟩ := KEEP.out _ BX.out
      obtain ⟨kk0, kk1, kk2, kk3⟩ := KK.out
      have k0 := ext_cell DX.out kk0
      have k1 := ext_cell DX.out kk1
      have k2 := ext_cell DX.out kk2
      have k3 := ext_cell DX.out kk3
      clear kk0 kk1 kk2 kk3 m0 m1 m2 m3 mf KEEP KK
      generalize ((((w4.setCell ⟨b2, 0, none⟩ (.slice qw.sa qw.sn qw.sc)).setCell ⟨b2, 1, none⟩ (.slice qw.ra qw.rn qw.rc)).setCell ⟨b2, 2, none⟩ (.slice qw.wa qw.wn qw.tc)).setCell ⟨b2, 3, none⟩ (.slice qw.va qw.vn qw.vc)) = V at *
      have m0 := x0
      have m1 := x1
      have m2 := x2
      have m3 := x3
      clear x0 x1 x2 x3
      have BV := BX
      have DV := DX
      go_wp2_with fail
      refine (CS.out _ BV.out).mono ?_
      rintro e w5 ⟨rfl, hbx⟩
      have Bw5 : Hid (Below W.heap.size W w5) := grow_trans BV.out hbx
      have Dw5 : Hid (Below V1.heap.size V1 w5) := grow_trans DV.out hbx
      have p0 := ext_cell hbx p0
      have p1 := ext_cell hbx p1
      have q0 := ext_cell hbx q0
      have q1 := ext_cell hbx q1
      have q2 := ext_cell hbx q2
      have q3 := ext_cell hbx q3
      have k0 := ext_cell hbx k0
      have k1 := ext_cell hbx k1
      have k2 := ext_cell hbx k2
      have k3 := ext_cell hbx k3
      have m0 := ext_cell hbx m0
      have m1 := ext_cell hbx m1
      have m2 := ext_cell hbx m2
      have m3 := ext_cell hbx m3
      have HQ5 : Hid (StaQ SB q w5) := HQ.out.below hbx
      have HR5 : Hid (StaQ SB qw w5) := HR.out.below hbx
      clear hbx
      go_wp2_with fail
      refine (HBB.out _).mono ?_
      rintro e w6 ⟨rfl, hbx⟩
      have Bw6 : Hid (Below W.heap.size W w6) := grow_trans Bw5.out hbx
      have Dw6 : Hid (Below V1.heap.size V1 w6) := grow_trans Dw5.out hbx
      have p0 := ext_cell hbx p0
      have p1 := ext_cell hbx p1
      have q0 := ext_cell hbx q0
      have q1 := ext_cell hbx q1
      have q2 := ext_cell hbx q2
      have q3 := ext_cell hbx q3
      have k0 := ext_cell hbx k0
      have k1 := ext_cell hbx k1
      have k2 := ext_cell hbx k2
      have k3 := ext_cell hbx k3
      have m0 := ext_cell hbx m0
      have m1 := ext_cell hbx m1
      have m2 := ext_cell hbx m2
      have m3 := ext_cell hbx m3
      have HQ6 : Hid (StaQ SB q w6) := HQ5.out.below hbx
      have HR6 : Hid (StaQ SB qw w6) := HR5.out.below hbx
      clear hbx
      go_wp2_with fail
      refine (CE.out q qw w6 HQ6.out HR6.out).mono ?_
      rintro e w7 ⟨rfl, hbx⟩
      have Bw7 : Hid (Below W.heap.size W w7) := grow_trans Bw6.out hbx
      have Dw7 : Hid (Below V1.heap.size V1 w7) := grow_trans Dw6.out hbx
      have p0 := ext_cell hbx p0
      have p1 := ext_cell hbx p1
      have q0 := ext_cell hbx q0
      have q1 := ext_cell hbx q1
      have q2 := ext_cell hbx q2
      have q3 := ext_cell hbx q3
      clear hbx
      go_wp2_with fail
      refine (CC.out _ Bw7.out).mono ?_
      rintro e w8 ⟨rfl, hbx⟩
      have Bw8 : Hid (Below W.heap.size W w8) := grow_trans Bw7.out hbx
      have Dw8 : Hid (Below V1.heap.size V1 w8) := grow_trans Dw7.out hbx
      have p0 := ext_cell hbx p0
      have p1 := ext_cell hbx p1
      have q0 := ext_cell hbx q0
      have q1 := ext_cell hbx q1
      have q2 := ext_cell hbx q2
      have q3 := ext_cell hbx q3
      clear hbx
      by_cases hX : X = 0
      rotate_left
      · have hb : (X == 0) = false := by simpa using hX
        obtain rfl : O = false := HO1.out hX
        have BW : Hid (Below w.heap.size w w8) := grow_trans HG.out Bw8.out
        clear HO1 HO2
        go_wp2
        go_ret
        exact ⟨by simp, BW.out⟩
      · subst hX
        have CO := HO2.out rfl
        go_wp2_with fail
        refine (CO _ Bw8.out).mono ?_
        rintro e w9 ⟨rfl, hbx⟩
        have Bw9 : Hid (Below W.heap.size W w9) := grow_trans Bw8.out hbx
        have Dw9 : Hid (Below V1.heap.size V1 w9) := grow_trans Dw8.out hbx
        clear hbx
        have BW : Hid (Below w.heap.size w w9) := grow_trans HG.out Bw9.out
        go_wp2
        go_ret
        exact ⟨by simp, BW.out⟩
end Go.Proofs.YtebjkmknhpgemaaGreat

namespace Go.Proofs.YtebjkmknhpgemaaGreat
open Go.ChangeShapes Go.WideShapes Go.ChangeAt Go.RowKit Go.Deep

set_option maxRecDepth 100000 in
theorem stepsChecks_lifted (os : Os) (started : os.Started) (H : Type) (enc : TypeId × Value → H) :
    ReturnsInHanded {} Tryz.checked os 3 .any (Rows.stepsChecksSpec.pre6 enc Tryz.prog Tryz.f3 Rows.stepsChecksRow.domain false) (Rows.stepsChecksSpec.post enc Tryz.prog Tryz.f3 false true false false) := by
  refine returnsInHanded_of_change (C := Tryz.checked) ownK started (by kernel_rfl) Tryz.func3
    (ChangeSpec.witness6 (enc := enc) (C := Tryz.checked) false ⟨#[], #[.agg #[.int .i64 0, .slice none 0 0], .slice none 0 0, .agg #[.slice none 0 0, .slice none 0 0, .slice none 0 0, .slice none 0 0]], []⟩ 8 (by kernel_rfl) (by kernel_rfl) (by kernel_rfl) (by kernel_rfl)) ?_
  intro W base args ds gs0 before hval0 hW hcnd _
  have hval : ∀ (j : Nat) t v, Tryz.f3.params[j]? = some t → args[j]? = some v → Value.okWide Tryz.prog W .any base t v := hval0
  have hW' := hW
  obtain ⟨p, q, hA0, hV, rfl, hfz, hnd⟩ := hW
  have hA : DataW.TrodAll enc Tryz.prog W 0 (fun _ => true) true Tryz.f3.params.toList args.toList ds p := hA0
  rw [Tryz.params3] at hA hval
  obtain ⟨v0, vs0, d0, ds0, p0, q0, hargs, rfl, rfl, h0, r0⟩ := trodAll_cons hA
  obtain ⟨v1, vs1, d1, ds1, p1, q1, rfl, rfl, rfl, h1, r1⟩ := trodAll_cons r0
  obtain ⟨v2, vs2, d2, ds2, p2, q2, rfl, rfl, rfl, h2, r2⟩ := trodAll_cons r1
  obtain ⟨rfl, rfl, rfl⟩ := trodAll_nil r2
  obtain rfl : args = #[v0, v1, v2] := by cases args; simp_all
  obtain ⟨rfl, rfl⟩ := trodVars_none hV
  have k0 := h0
  have lt0 : ∀ x ∈ p0, x.block < W.heap.size := by obtain ⟨m, hm⟩ := k0; exact DataW.trod_lt m _ _ _ hm
  have k1 := h1
  have lt1 : ∀ x ∈ p1, x.block < W.heap.size := by obtain ⟨m, hm⟩ := k1; exact DataW.trod_lt m _ _ _ hm
  have k2 := h2
  have lt2 : ∀ x ∈ p2, x.block < W.heap.size := by obtain ⟨m, hm⟩ := k2; exact DataW.trod_lt m _ _ _ hm
  obtain ⟨m0, la0, l0, lc0, rfl, hl0⟩ := open_p (hval 0 24 v0 rfl rfl) h0
  obtain ⟨za1, zs1, zc1, rfl, hzl1, hz1, hzn1⟩ := open_zs (hval 1 25 v1 rfl rfl) h1
  obtain ⟨sa2, ra2, wa2, va2, sc2, rc2, tc2, vc2, S2, rfl, hs2⟩ := open_st (hval 2 29 v2 rfl rfl) h2
  clear hA0 hval0
  refine (stepsChecks_walk la0 lc0 l0 za1 zc1 zs1 sa2 ra2 wa2 va2 sc2 rc2 tc2 vc2 S2 m0 W hl0 hz1 hs2).mono fun e W' ⟨he, bel⟩ => ?_
  subst he
  exact ⟨_, rfl, _, _, _, [], _, [], hW', trodAll_mk1 (shut_bool Tryz.underlying4 _), (trodAll_cons_mk (Below.trod laidOutK (by kernel_rfl) (of_decide_eq_true (by kernel_rfl)) k0 bel lt0) (trodAll_cons_mk (Below.trod laidOutK (by kernel_rfl) (of_decide_eq_true (by kernel_rfl)) k1 bel lt1) (trodAll_cons_mk (Below.trod laidOutK (by kernel_rfl) (of_decide_eq_true (by kernel_rfl)) k2 bel lt2) trodAll_mk0))), rfl, bel.frame _, fun h => by cases h⟩

set_option maxRecDepth 100000 in
theorem stepsChecks_over : Rows.stepsChecksRow.holds Tryz.pinned (OpenSpec.ofChange Rows.stepsChecksSpec) :=
  OpenClaim.holds_of_wide 3 Tryz.f3 rfl rfl rfl rfl rfl rfl rfl ⟨rfl, rfl, rfl, rfl, rfl⟩ rfl rfl rfl rfl rfl (by kernel_rfl) Tryz.func3 (by kernel_rfl)
    (of_decide_eq_true (by kernel_rfl)) (by unfold Func.isWrapper; first | (rw [if_pos (by decide +kernel)]; kernel_rfl) | (rw [if_neg (by decide +kernel)]; exact ⟨rfl, rfl⟩))
    (fun os started H enc _ => stepsChecks_lifted os started H enc)

/-- The statement. -/
theorem stepsChecks_holds : Rows.StepsChecksSaid := stepsChecks_over
#print axioms stepsChecks_holds
end Go.Proofs.YtebjkmknhpgemaaGreat
