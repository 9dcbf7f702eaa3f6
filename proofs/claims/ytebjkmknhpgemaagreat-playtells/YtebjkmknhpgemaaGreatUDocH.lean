/-
  
  Conditions: those that each theorem states.
-/
import Derived.Test.YtebjkmknhpgemaaGreatUDocG
set_option maxRecDepth 100000
namespace Go.Proofs.YtebjkmknhpgemaaGreat
open Go.RowKit
theorem mD {w w' : World} {C e : Nat} {v : Value} {n : Nat} {xs : List Value} (hh : w'.heap = w.heap) (h : w.ownsRow C e 1 v n xs) : w'.ownsRow C e 1 v n xs := by
 unfold World.ownsRow at *
 rw [hh]
 exact h
theorem eU {w : World} {ops : Array Oper} {o : Oper} {a : Act} {K : Act → World → Prop} {Q : Exit → Act → World → Prop} {E : Prop} (hgd : o.guard = none) (s x : Operand) (t e : TypeId)
  (ho : o.op = .call { callee := .builtin .append, args := #[s, x], argTypes := #[t, t] }) (i : TypeInfo) (z : Value) (ht : Tryz.prog.underlying t = some (.slice e)) (hi : Tryz.prog.info? e = some i) (hz : i.zero = some z) (h1 : i.size = 1) (h24 : i.bytes ≤ 24) (hzs : z.cells.size = 1)
  (C G0 : Nat) (hs : a.eval s = .slice (some ⟨G0, 0, none⟩) 0 0) (hown : w.ownsRow C e 1 (.slice (some ⟨G0, 0, none⟩) 0 0) 0 [])
  (n : Nat) (G : Nat → Value) (ra : Option Addr) (c : Nat) (hx : a.eval x = .slice ra n c) (hcells : ∀ k, k < n → ∃ b off, ra = some (⟨b, off, none⟩ : Addr) ∧ w.cell? ⟨b, off + k, none⟩ = some (G k)) (hone : ∀ k, k < n → (G k).oneCell' = true)
  (hsm : n ≤ 100) (hbase : C ≤ w.heap.size)
  (h : ∀ a' c' g w', NewRow C w' a' c' g n G → w.grownBy w' (some G0) → K (a.put o.dst (.slice a' n c')) w') :
  if Region.wanted o (yielded ops a.tmps) = true then Oper.wp Tryz.prog o a w K Q else E := by
 have hw : Region.wanted o (yielded ops a.tmps) = true := by simp [Region.wanted, hgd]
 rw [if_pos hw]
 cases ra with
 | none =>
  have h0 : n = 0 := by
   by_cases c0 : n = 0
   ·exact c0
   ·obtain ⟨_, _, e, _⟩ := hcells 0 (by omega); cases e
  subst h0
  have hrun : (Builtin.append_ #[t, t] o.type #[.slice (some ⟨G0, 0, none⟩) 0 0, .slice none 0 c]).run Tryz.prog w = .ok (.slice (some ⟨G0, 0, none⟩) 0 0) w := by
   simp [Builtin.append_, run_underlying ht, sizeOf, typeInfo, hi, Builtin.lenOf, Builtin.firstCells, storeCells]
  have hC : C ≤ G0 := (hown.lt G0 rfl).1
  unfold Oper.wp execOp
  simp only [ho, resolve, invoke, builtin, Sem.run_bind, Sem.run_pure, Result.andThen_ok, List.map_toArray, List.map_cons, List.map_nil, hs, hx, hrun]
  exact h _ _ G0 w ⟨fun hn => absurd hn (Nat.lt_irrefl _), (fun e => by cases e), (fun ad e => by injection e with e; subst e; exact hC)⟩ (cZ (Below.refl _ _) _)
 | some ad =>
  obtain ⟨v', w', hrun, h2, h3, _, _⟩ := run_append_own_at (P := Tryz.prog) w C t o.type e i z 1 i.bytes ht hi hz h1 rfl hzs (by decide) _ 0 [] hown ad n c ((List.range n).map G) (by simp) (fun j u hj => by
   have hlt : j < n := by
    have := (List.getElem?_eq_some_iff.1 hj).1
    simpa using this
   obtain ⟨b, off, e, d⟩ := hcells j hlt
   injection e with e
   subst e
   rw [bS, d, ← hj]
   simp [hlt]) (fun u hu => by
   obtain ⟨k, hk, rfl⟩ := List.mem_map.1 hu
   exact hone k (List.mem_range.1 hk)) (by unfold maxLen; omega) (by
   have : (0 + n) * i.bytes ≤ 100 * 24 := Nat.mul_le_mul (by omega) h24
   omega) hbase
  rw [List.nil_append, Nat.zero_add] at h2
  obtain ⟨a', c', g, rfl, hn⟩ := lA h2
  unfold Oper.wp execOp
  simp only [ho, resolve, invoke, builtin, Sem.run_bind, Sem.run_pure, Result.andThen_ok, List.map_toArray, List.map_cons, List.map_nil, hs, hx, hrun]
  exact h a' c' g w' hn h3
structure OS (w2 Wj : World) (O T C j : Nat) (u : Nat → Value) (wr : World) (v : Value) (k : Nat) (len : Nat → Nat) (G : Nat → Nat → Value) (L : List (Option Addr × Nat × Nat)) (B : Nat → Nat) : Prop where
 c : ∀ m, m < 4 → m ≠ j → wr.cell? ⟨O, m, none⟩ = some (u m)
 cj : wr.cell? ⟨O, j, none⟩ = some v
 fz : ∀ m, wr.frozen? ⟨O, m, none⟩ = false
 cr : CR T C wr v k len G L B
 bl : Below O w2 wr
 sm : ∀ b, O < b → b < C → wr.heap[b]? = Wj.heap[b]?
 hC : C ≤ wr.heap.size
 hO : O < C
theorem OS.push {w2 Wj V wN w3 : World} {O T C j : Nat} {u : Nat → Value} {v v' : Value} {k : Nat} {len : Nat → Nat} {G : Nat → Nat → Value} {L : List (Option Addr × Nat × Nat)} {B : Nat → Nat} {a : Option Addr} {c g : Nat} (h : OS w2 Wj O T C j u V v k len G L B) (hb : Below V.heap.size V wN)
  (ho : w3.ownsRow C T 1 v' (L.length + 1) ((L.map fun p => Value.slice p.1 p.2.1 p.2.2) ++ [.slice a (len k) c])) (hg : wN.grownBy w3 v.ownBlock) (hv : v'.ownBlock = v.ownBlock ∨ v'.ownBlock = some wN.heap.size)
  (hn : NewRow V.heap.size wN a c g (len k) (G k)) : ∃ B', OS w2 Wj O T C j u (w3.setCell ⟨O, j, none⟩ v') v' (k + 1) len G (L ++ [(a, len k, c)]) B' := by
 obtain ⟨B', P, _⟩ := h.cr.pushed hb ho hg hv hn h.hC O j h.hO v'
 have hOV : O < V.heap.size := Nat.lt_of_lt_of_le h.hO h.hC
 have hvb : ∀ b, v.ownBlock = some b → C ≤ b := fun b e => (h.cr.o.lt b e).1
 have hOne : some O ≠ v.ownBlock := fun e => by have := hvb O e.symm; have := h.hO; omega
 have hON : O < wN.heap.size := Nat.lt_of_lt_of_le hOV hb.size
 have blk : ∀ b, b < C → w3.heap[b]? = V.heap[b]? := fun b hbC => (hg.block b (Nat.lt_of_lt_of_le (Nat.lt_of_lt_of_le hbC h.hC) hb.size) (fun e => by have := hvb b e.symm; omega)).trans (hb.block b (Nat.lt_of_lt_of_le hbC h.hC))
 have cel : ∀ m x, V.cell? ⟨O, m, none⟩ = some x → w3.cell? ⟨O, m, none⟩ = some x := fun m x e => (World.cell?_of_block (a := ⟨O, m, none⟩) (blk O h.hO)).trans e
 refine ⟨B', ⟨fun m hm hne => ?_, ?_, fun m => ?_, P, ?_, fun b h1 h2 => ?_, ?_, h.hO⟩⟩
 ·exact aH hne (cel m _ (h.c m hm hne))
 ·exact aK (cel j _ h.cj)
 ·have e := (World.frozen?_of_block (a := ⟨O, m, none⟩) (blk O h.hO)).trans (h.fz m)
  simpa using e
 ·exact (((h.bl.trans (hb.mono (Nat.le_of_lt hOV))).grown hg (Nat.le_of_lt hON) (fun q e => by have := hvb q e; have := h.hO; omega)).setCell (Nat.le_refl _) _)
 ·exact (dN w3 O j v' b (by omega)).trans ((blk b h2).trans (h.sm b h1 h2))
 ·rw [World.size_setCell]
  exact Nat.le_trans h.hC (Nat.le_trans hb.size hg.size)
variable (sa ra wa va : Option Addr) (sc rc tc vc : Nat) (l : List TxA) (sh : Nat) (S : SA)
set_option maxHeartbeats 8000000 in
theorem oQ (w : World) (h0 : 0 < sh) (h4 : sh ≤ 4) (h8 : l.length ≤ 8) (hr4 : ∀ i, i < l.length → (gX l i).rs.length ≤ 4) (hf : Form sh l S) (hs : Sta w sa ra wa va S) :
  Calls Tryz.prog 40 #[.agg #[.slice sa 8 sc, .slice ra l.length rc, .slice wa l.length tc, .slice va l.length vc]] w fun e w' => ∃ sa' ra' wa' va' sc' rc' tc' vc' g0 c1 c2 c3 gr gw gv Br Bw Bv, e = .returned (.agg #[.slice sa' 8 sc', .slice ra' l.length rc', .slice wa' l.length tc', .slice va' l.length vc']) ∧ OwnSt w.heap.size w' sa' ra' wa' va' sc' l sh S g0 c1 c2 c3 w'.heap.size gr gw gv Br Bw Bv ∧ Below w.heap.size w w' := by
 obtain ⟨W, hWe⟩ : ∃ W : World, W = ((w.alloc (.cells #[.slice sa 8 sc, .slice ra l.length rc, .slice wa l.length tc, .slice va l.length vc] 29)).alloc (.cells #[.slice none 0 0, .slice none 0 0, .slice none 0 0, .slice none 0 0] 29)) := ⟨_, rfl⟩
 have hW : Hid (Below w.heap.size w W) := by subst hWe; exact aB (aB (Below.refl _ _) _) _
 have Y0 : Hid (W.cell? ⟨w.heap.size, 0, none⟩ = some (.slice sa 8 sc)) := by subst hWe; exact aA (aB (Below.refl _ _) _) (aE w _ 29 _ 0 _ rfl rfl)
 have Y1 : Hid (W.cell? ⟨w.heap.size, 1, none⟩ = some (.slice ra l.length rc)) := by subst hWe; exact aA (aB (Below.refl _ _) _) (aE w _ 29 _ 1 _ rfl rfl)
 have Y2 : Hid (W.cell? ⟨w.heap.size, 2, none⟩ = some (.slice wa l.length tc)) := by subst hWe; exact aA (aB (Below.refl _ _) _) (aE w _ 29 _ 2 _ rfl rfl)
 have Y3 : Hid (W.cell? ⟨w.heap.size, 3, none⟩ = some (.slice va l.length vc)) := by subst hWe; exact aA (aB (Below.refl _ _) _) (aE w _ 29 _ 3 _ rfl rfl)
 have T0 : Hid (∀ j, j < 4 → W.cell? ⟨w.heap.size + 1, j, none⟩ = some (.slice none 0 0)) := by
  subst hWe
  exact fun j hj => by
   match j, hj with
   | 0, _ => exact aE _ _ 29 _ 0 _ (by simp) rfl
   | 1, _ => exact aE _ _ 29 _ 1 _ (by simp) rfl
   | 2, _ => exact aE _ _ 29 _ 2 _ (by simp) rfl
   | 3, _ => exact aE _ _ 29 _ 3 _ (by simp) rfl
 have TF : Hid (∀ j, W.frozen? ⟨w.heap.size + 1, j, none⟩ = false) := by subst hWe; exact fun j => aT _ _ 29 _ j (by simp)
 have sz : Hid (W.heap.size = w.heap.size + 2) := by subst hWe; show _ = _; simp
 have HS : Hid (Sta W sa ra wa va S) := hs.below hW.out
 have HF : Hid (Form sh l S) := hf
 have HR4 : Hid (∀ i, i < l.length → (gX l i).rs.length ≤ 4) := hr4
 obtain ⟨i4, hi4, hz4, hs4, hb4'⟩ := info_parts Tryz.info4
 obtain ⟨i3, hi3, hz3, hs3, hb3'⟩ := info_parts Tryz.info3
 obtain ⟨i65, hi65, hz65, hs65, hb65⟩ := info_parts Tryz.info65
 obtain ⟨i25, hi25, hz25, hs25, hb25⟩ := info_parts Tryz.info25
 have hb4 : i4.bytes ≤ 24 := by omega
 have hb3 : i3.bytes ≤ 24 := by omega
 have H8 : Hid (S.st.length = 8) := hf.st
 obtain ⟨sb, so, esa, _, _⟩ := hs.st 0 (by rw [hf.st]; decide)
 have hst : ∀ a, a = sa → IsInts W a S.st := fun a e => by rw [e]; exact (hs.below hW.out).st
 have hnews : Hid (∀ (o : Obj) j u, ((List.range S.st.length).map (fun k => Value.int .i64 (S.st.getD k 0)))[j]? = some u → (W.alloc o).cell? ((⟨sb, so, none⟩ : Addr).add j) = some u) := by subst hWe; exact fun o => oH ((hst _ esa.symm).below (aB (Below.refl _ _) o))
 have ESA : Hid (sa = some ⟨sb, so, none⟩) := esa
 clear hs hf hr4 hst esa
 have HWe : Hid (W = _) := hWe
 clear hWe
 go_enter Tryz.func40, Tryz.ntmps40
 go_upto_region 1 with fail
 rw [← HWe.out]
 clear HWe
 have y0 := Y0.out
 rw [ESA.out, ← H8.out] at y0
 have y0' : ∀ o, (W.alloc o).cell? ⟨w.heap.size, 0, none⟩ = some (.slice (some ⟨sb, so, none⟩) S.st.length sc) := fun o => aA (aB (Below.refl _ _) o) y0
 go_upto_region 2 with (first
   | (at_builtin; refine wpList_append_own _ rfl _ _ 25 rfl W.heap.size 3 i3 (.int .i64 0) 1 8 Tryz.underlying25 hi3 hz3 hs3 hb3' rfl (by decide) _ 0 [] rfl (World.ownsRow_lit W #[] 0 (Nat.le_refl _) (by decide) rfl) ⟨sb, so, none⟩ S.st.length sc ((List.range S.st.length).map (fun k => Value.int .i64 (S.st.getD k 0))) rfl (by simp) (hnews.out _) (pV S.st _) (by have := H8.out; unfold maxLen; omega) (by have := H8.out; omega) (by simp) ?_; intro v' w2 hown' hgrow _; rw [List.nil_append, Nat.zero_add] at hown'; obtain ⟨a', c', g0, rfl, hn0⟩ := lA hown')
   | go_in)
 rw [H8.out] at hn0 ⊢
 have hb2 : Below W.heap.size W w2 := (aB (Below.refl _ _) _).grown hgrow (by simp) (fun j hj => by cases hj; exact Nat.le_refl _)
 have B2 : Hid (Below W.heap.size W w2) := hb2
 have R0 : Hid (NewRow W.heap.size w2 a' c' g0 8 (fun k => .int .i64 (S.st.getD k 0))) := hn0
 have hWw : Hid (w.heap.size + 2 = W.heap.size ∧ w.heap.size + 1 < w2.heap.size ∧ g0 < w2.heap.size ∧ W.heap.size ≤ w2.heap.size) := by
  have e2 := hb2.size
  have e3 := sz.out
  exact ⟨by omega, by omega, (hn0.e (by decide)).2.2.1, e2⟩
 have OS0 : Hid (OS w2 (w2.alloc (.cells #[.slice a' 8 c', .slice none 0 0, .slice none 0 0, .slice none 0 0] 29)) w2.heap.size 65 (w2.alloc (.cells #[.slice a' 8 c', .slice none 0 0, .slice none 0 0, .slice none 0 0] 29)).heap.size 1 (fun m => if m = 0 then .slice a' 8 c' else .slice none 0 0) (w2.alloc (.cells #[.slice a' 8 c', .slice none 0 0, .slice none 0 0, .slice none 0 0] 29)) (.slice none 0 0) 0 (fun _ => sh) (fun i k => .bool (bW S.rd i k)) [] (fun _ => 0)) :=
  ⟨(fun m hm hne => by
   match m, hm, hne with
   | 0, _, _ => exact aE _ _ 29 _ 0 _ rfl rfl
   | 2, _, _ => exact aE _ _ 29 _ 2 _ rfl rfl
   | 3, _, _ => exact aE _ _ 29 _ 3 _ rfl rfl), aE _ _ 29 _ 1 _ rfl rfl, fun j => aT _ _ 29 _ j rfl, CR.nil _ _ _ _ _ _, aB (Below.refl _ _) _, (fun _ _ _ => rfl), Nat.le_refl _, by simp⟩
 clear hn0 hb2 hown' hgrow hnews y0 y0'
 go_upto_region 2 with fail
 generalize (w2.alloc (.cells #[.slice a' 8 c', .slice none 0 0, .slice none 0 0, .slice none 0 0] 29)) = W1 at *
 go_upto_region 3 with fail
 go_loopw [4] (fun i wr => ∃ (k : Nat) (v : Value) (L : List (Option Addr × Nat × Nat)) (B : Nat → Nat), k ≤ l.length ∧ i = .int .i64 k ∧ Hid (OS w2 W1 w2.heap.size 65 W1.heap.size 1 (fun m => if m = 0 then .slice a' 8 c' else .slice none 0 0) wr v k (fun _ => sh) (fun i k => .bool (bW S.rd i k)) L B)) (fun i _ => l.length - (intOf i).toNat)
 case atStart => exact ⟨0, _, [], (fun _ => 0), Nat.zero_le _, rfl, OS0⟩
 case round =>
  obtain ⟨k, v, L, B, hk, rfl, hO⟩ := hrel
  clear OS0
  obtain ⟨V, hren⟩ : ∃ V : World, V = wr := ⟨_, rfl⟩
  subst hren
  have x0 := aA (aC B2.out hO.out.bl) Y1.out
  by_cases hlt : k < l.length
  ·have i1 : (k : Int) < (l.length : Int) := by omega
   obtain ⟨b, off, b', off', rc', eR, q1, q2, z0, z1⟩ := (HS.out.below (aC B2.out hO.out.bl)).rd.rows HF.out.rd HF.out.rn h0 k hlt
   have RC : Hid (∀ m, m < sh → ∃ b1 o1, some ⟨b', off', none⟩ = some (⟨b1, o1, none⟩ : Addr) ∧ V.cell? ⟨b1, o1 + m, none⟩ = some (.bool (bW S.rd k m))) := fun m hm => ⟨b', off', rfl, z1 m hm⟩
   have z0 : V.cell? ⟨b, off + k, none⟩ = some (.slice (some ⟨b', off', none⟩) sh rc') := z0
   rw [eR] at x0
   clear z1 q1 q2 eR
   have c1 := hO.out.cj
   have oa1 : ∀ o, (V.alloc o).cell? ⟨w2.heap.size, 1, none⟩ = some v := fun o => aA (aB (Below.refl _ _) o) c1
   have ob1 : ∀ o, (V.alloc o).cell? ⟨w.heap.size, 1, none⟩ = some (.slice (some ⟨b, off, none⟩) l.length rc) := fun o => aA (aB (Below.refl _ _) o) x0
   have oc1 : ∀ o, (V.alloc o).cell? ⟨b, off + k, none⟩ = some (.slice (some ⟨b', off', none⟩) sh rc') := fun o => aA (aB (Below.refl _ _) o) z0
   have hsm : Hid (L.length ≤ 100) := by show _ ≤ _; have e := hO.out.cr.n; omega
   have hVO : Hid (w2.heap.size < V.heap.size) := Nat.lt_of_lt_of_le hO.out.hO hO.out.hC
   have hvO : Hid (v.ownBlock ≠ some w2.heap.size) := fun e => by have := (hO.out.cr.o.lt _ e).1; have := hO.out.hO; omega
   skip
   have A1 : Hid (∀ (X : World), X.heap = (V.alloc (.cells #[] 4)).heap → X.ownsRow V.heap.size 4 1 (.slice (some ⟨V.heap.size, 0, none⟩) 0 0) 0 []) := fun X hX => mD hX (World.ownsRow_lit V #[] 0 (Nat.le_refl _) (by decide) rfl)
   go_upto_region 5 with fail
   go_region_law (first
    | (refine eU (by rfl) _ _ 65 4 (by rfl) i4 _ Tryz.underlying65 hi4 hz4 hs4 hb4 rfl V.heap.size V.heap.size (by rfl) (A1.out _ rfl) sh (fun m => .bool (bW S.rd k m)) (some ⟨b', off', none⟩) _ (by rfl) (fun m hm => by obtain ⟨b1, o1, e, d⟩ := RC.out m hm; exact ⟨b1, o1, e, aA (aB (aD (Below.refl _ _)) _) d⟩) (fun m _ => rfl) (by omega) (by simp) ?_; intro an cn gn w4 hn4 hg4; have hb4 : Below V.heap.size V w4 := ((aB (aD (Below.refl _ _)) _ : Below V.heap.size V _)).grown hg4 (by simp) (fun q hq => by cases hq; exact Nat.le_refl _); have od : w4.cell? ⟨w2.heap.size, 1, none⟩ = some v := aA hb4 c1; have od2 : ∀ o, (w4.alloc o).cell? ⟨w2.heap.size, 1, none⟩ = some v := fun o => aA (aB hb4 o) c1)
    | (refine bG (by rfl) _ _ 26 65 (by rfl) i65 _ Tryz.underlying26 hi65 hz65 hs65 hb65 rfl W1.heap.size v L.length _ (by rfl) ((hO.out.cr.below (aB hb4 _)).o) ⟨_, 0, none⟩ 1 (.slice an sh cn) (by rfl) (aE _ _ 65 _ 0 _ (by simp) rfl) rfl hsm.out (Nat.le_trans hO.out.hC (aB hb4 _ : Below V.heap.size V _).size) ?_; intro v' w5 ho5 hg5 hv5; obtain ⟨g', cap', rfl, _, _⟩ := ho5.form (by simp); have oc : w5.cell? ⟨w2.heap.size, 1, none⟩ = some v := hg5.cell (aA (aB hb4 _) c1) (fun e => hvO.out e.symm); have of5 : w5.frozen? ⟨w2.heap.size, 1, none⟩ = false := (World.frozen?_of_block (a := ⟨w2.heap.size, 1, none⟩) (hg5.block w2.heap.size (Nat.lt_of_lt_of_le hVO.out (aB hb4 _ : Below V.heap.size V _).size) (fun e => hvO.out e.symm))).trans (((aB hb4 _ : Below V.heap.size V _).frozen (p := ⟨w2.heap.size, 1, none⟩) hVO.out).trans (hO.out.fz 1))))
   all_goals (
    obtain ⟨B', hp⟩ := hO.out.push (aB hb4 _) ho5 hg5 hv5 (hn4.below (aB (Below.refl _ _) _))
    have HP : Hid (OS w2 W1 w2.heap.size 65 W1.heap.size 1 (fun m => if m = 0 then .slice a' 8 c' else .slice none 0 0) (w5.setCell ⟨w2.heap.size, 1, none⟩ (.slice (some ⟨g', 0, none⟩) (L.length + 1) cap')) (.slice (some ⟨g', 0, none⟩) (L.length + 1) cap') (k + 1) (fun _ => sh) (fun i k => .bool (bW S.rd i k)) (L ++ [(an, sh, cn)]) B') := hp
    clear hp hO c1 oa1 ob1 oc1 ho5 hg5 hv5 hn4 hg4 hb4 od od2 oc of5 x0 z0 RC A1
    generalize (w5.setCell ⟨w2.heap.size, 1, none⟩ (.slice (some ⟨g', 0, none⟩) (L.length + 1) cap')) = WF at *
    go_wp2
    go_roundw
    case rel => exact ⟨k + 1, _, _, B', by omega, by go_num, HP⟩
    case measure => simp [intOf]; omega)
  ·have hkk : k = l.length := by omega
   subst hkk
   have i1 : ¬ (l.length : Int) < (l.length : Int) := by omega
   obtain ⟨a1, k1, g1, hv1, o1⟩ := hO.out.cr.fin
   subst hv1
   have HO1 : Hid (OR W1.heap.size V.heap.size V a1 l.length (fun _ => sh) (fun i k => .bool (bW S.rd i k)) g1 B) := o1
   have HS1 : Hid (∀ b, w2.heap.size < b → b < W1.heap.size → V.heap[b]? = W1.heap[b]?) := hO.out.sm
   have HZ1 : Hid (W1.heap.size ≤ V.heap.size ∧ w2.heap.size < V.heap.size ∧ w2.heap.size < W1.heap.size) := ⟨hO.out.hC, Nat.lt_of_lt_of_le hO.out.hO hO.out.hC, hO.out.hO⟩
   have OS0 : Hid (OS w2 V w2.heap.size 65 V.heap.size 2 (fun m => if m = 0 then .slice a' 8 c' else if m = 1 then .slice a1 l.length k1 else .slice none 0 0) V (.slice none 0 0) 0 (fun _ => sh) (fun i k => .bool (bW S.wr i k)) [] (fun _ => 0)) :=
    ⟨(fun m hm hne => by
     match m, hm, hne with
     | 0, _, _ => exact hO.out.c 0 (by decide) (by decide)
     | 1, _, _ => exact hO.out.cj
     | 3, _, _ => exact hO.out.c 3 (by decide) (by decide)), hO.out.c 2 (by decide) (by decide), hO.out.fz, CR.nil _ _ _ _ _ _, hO.out.bl, (fun _ _ _ => rfl), Nat.le_refl _, Nat.lt_of_lt_of_le hO.out.hO hO.out.hC⟩
   clear o1 hO
   go_upto_region 7 with fail
   clear x0
   obtain ⟨W2, hren⟩ : ∃ W2 : World, W2 = V := ⟨_, rfl⟩
   subst hren
   obtain ⟨BB1, hBB1⟩ : ∃ BB1 : Nat → Nat, BB1 = B := ⟨_, rfl⟩
   subst hBB1
   go_loopw [5] (fun i wr => ∃ (k : Nat) (v : Value) (L : List (Option Addr × Nat × Nat)) (B : Nat → Nat), k ≤ l.length ∧ i = .int .i64 k ∧ Hid (OS w2 W2 w2.heap.size 65 W2.heap.size 2 (fun m => if m = 0 then .slice a' 8 c' else if m = 1 then .slice a1 l.length k1 else .slice none 0 0) wr v k (fun _ => sh) (fun i k => .bool (bW S.wr i k)) L B)) (fun i _ => l.length - (intOf i).toNat)
   case atStart => exact ⟨0, _, [], (fun _ => 0), Nat.zero_le _, rfl, OS0⟩
   case round =>
    obtain ⟨k, v, L, B, hk, rfl, hO⟩ := hrel
    clear OS0
    obtain ⟨V, hren⟩ : ∃ V : World, V = wr := ⟨_, rfl⟩
    subst hren
    have x0 := aA (aC B2.out hO.out.bl) Y2.out
    by_cases hlt : k < l.length
    ·have i1 : (k : Int) < (l.length : Int) := by omega
     obtain ⟨b, off, b', off', rc', eR, q1, q2, z0, z1⟩ := (HS.out.below (aC B2.out hO.out.bl)).wr.rows HF.out.wr HF.out.wn h0 k hlt
     have RC : Hid (∀ m, m < sh → ∃ b1 o1, some ⟨b', off', none⟩ = some (⟨b1, o1, none⟩ : Addr) ∧ V.cell? ⟨b1, o1 + m, none⟩ = some (.bool (bW S.wr k m))) := fun m hm => ⟨b', off', rfl, z1 m hm⟩
     have z0 : V.cell? ⟨b, off + k, none⟩ = some (.slice (some ⟨b', off', none⟩) sh rc') := z0
     rw [eR] at x0
     clear z1 q1 q2 eR
     have c1 := hO.out.cj
     have oa1 : ∀ o, (V.alloc o).cell? ⟨w2.heap.size, 2, none⟩ = some v := fun o => aA (aB (Below.refl _ _) o) c1
     have ob1 : ∀ o, (V.alloc o).cell? ⟨w.heap.size, 2, none⟩ = some (.slice (some ⟨b, off, none⟩) l.length tc) := fun o => aA (aB (Below.refl _ _) o) x0
     have oc1 : ∀ o, (V.alloc o).cell? ⟨b, off + k, none⟩ = some (.slice (some ⟨b', off', none⟩) sh rc') := fun o => aA (aB (Below.refl _ _) o) z0
     have hsm : Hid (L.length ≤ 100) := by show _ ≤ _; have e := hO.out.cr.n; omega
     have hVO : Hid (w2.heap.size < V.heap.size) := Nat.lt_of_lt_of_le hO.out.hO hO.out.hC
     have hvO : Hid (v.ownBlock ≠ some w2.heap.size) := fun e => by have := (hO.out.cr.o.lt _ e).1; have := hO.out.hO; omega
     skip
     have A1 : Hid (∀ (X : World), X.heap = (V.alloc (.cells #[] 4)).heap → X.ownsRow V.heap.size 4 1 (.slice (some ⟨V.heap.size, 0, none⟩) 0 0) 0 []) := fun X hX => mD hX (World.ownsRow_lit V #[] 0 (Nat.le_refl _) (by decide) rfl)
     go_upto_region 9 with fail
     go_region_law (first
      | (refine eU (by rfl) _ _ 65 4 (by rfl) i4 _ Tryz.underlying65 hi4 hz4 hs4 hb4 rfl V.heap.size V.heap.size (by rfl) (A1.out _ rfl) sh (fun m => .bool (bW S.wr k m)) (some ⟨b', off', none⟩) _ (by rfl) (fun m hm => by obtain ⟨b1, o1, e, d⟩ := RC.out m hm; exact ⟨b1, o1, e, aA (aB (aD (Below.refl _ _)) _) d⟩) (fun m _ => rfl) (by omega) (by simp) ?_; intro an cn gn w4 hn4 hg4; have hb4 : Below V.heap.size V w4 := ((aB (aD (Below.refl _ _)) _ : Below V.heap.size V _)).grown hg4 (by simp) (fun q hq => by cases hq; exact Nat.le_refl _); have od : w4.cell? ⟨w2.heap.size, 2, none⟩ = some v := aA hb4 c1; have od2 : ∀ o, (w4.alloc o).cell? ⟨w2.heap.size, 2, none⟩ = some v := fun o => aA (aB hb4 o) c1)
      | (refine bG (by rfl) _ _ 26 65 (by rfl) i65 _ Tryz.underlying26 hi65 hz65 hs65 hb65 rfl W2.heap.size v L.length _ (by rfl) ((hO.out.cr.below (aB hb4 _)).o) ⟨_, 0, none⟩ 1 (.slice an sh cn) (by rfl) (aE _ _ 65 _ 0 _ (by simp) rfl) rfl hsm.out (Nat.le_trans hO.out.hC (aB hb4 _ : Below V.heap.size V _).size) ?_; intro v' w5 ho5 hg5 hv5; obtain ⟨g', cap', rfl, _, _⟩ := ho5.form (by simp); have oc : w5.cell? ⟨w2.heap.size, 2, none⟩ = some v := hg5.cell (aA (aB hb4 _) c1) (fun e => hvO.out e.symm); have of5 : w5.frozen? ⟨w2.heap.size, 2, none⟩ = false := (World.frozen?_of_block (a := ⟨w2.heap.size, 2, none⟩) (hg5.block w2.heap.size (Nat.lt_of_lt_of_le hVO.out (aB hb4 _ : Below V.heap.size V _).size) (fun e => hvO.out e.symm))).trans (((aB hb4 _ : Below V.heap.size V _).frozen (p := ⟨w2.heap.size, 2, none⟩) hVO.out).trans (hO.out.fz 2))))
     all_goals (
      obtain ⟨B', hp⟩ := hO.out.push (aB hb4 _) ho5 hg5 hv5 (hn4.below (aB (Below.refl _ _) _))
      have HP : Hid (OS w2 W2 w2.heap.size 65 W2.heap.size 2 (fun m => if m = 0 then .slice a' 8 c' else if m = 1 then .slice a1 l.length k1 else .slice none 0 0) (w5.setCell ⟨w2.heap.size, 2, none⟩ (.slice (some ⟨g', 0, none⟩) (L.length + 1) cap')) (.slice (some ⟨g', 0, none⟩) (L.length + 1) cap') (k + 1) (fun _ => sh) (fun i k => .bool (bW S.wr i k)) (L ++ [(an, sh, cn)]) B') := hp
      clear hp hO c1 oa1 ob1 oc1 ho5 hg5 hv5 hn4 hg4 hb4 od od2 oc of5 x0 z0 RC A1
      generalize (w5.setCell ⟨w2.heap.size, 2, none⟩ (.slice (some ⟨g', 0, none⟩) (L.length + 1) cap')) = WF at *
      go_wp2
      go_roundw
      case rel => exact ⟨k + 1, _, _, B', by omega, by go_num, HP⟩
      case measure => simp [intOf]; omega)
    ·have hkk : k = l.length := by omega
     subst hkk
     have i1 : ¬ (l.length : Int) < (l.length : Int) := by omega
     obtain ⟨a2, k2, g2, hv2, o2⟩ := hO.out.cr.fin
     subst hv2
     have HO2 : Hid (OR W2.heap.size V.heap.size V a2 l.length (fun _ => sh) (fun i k => .bool (bW S.wr i k)) g2 B) := o2
     have HS2 : Hid (∀ b, w2.heap.size < b → b < W2.heap.size → V.heap[b]? = W2.heap[b]?) := hO.out.sm
     have HZ2 : Hid (W2.heap.size ≤ V.heap.size ∧ w2.heap.size < V.heap.size ∧ w2.heap.size < W2.heap.size) := ⟨hO.out.hC, Nat.lt_of_lt_of_le hO.out.hO hO.out.hC, hO.out.hO⟩
     have OS0 : Hid (OS w2 V w2.heap.size 25 V.heap.size 3 (fun m => if m = 0 then .slice a' 8 c' else if m = 1 then .slice a1 l.length k1 else .slice a2 l.length k2) V (.slice none 0 0) 0 (fun i => (gX l i).rs.length) (fun i k => .int .i64 ((S.vs.getD i []).getD k 0)) [] (fun _ => 0)) :=
      ⟨(fun m hm hne => by
       match m, hm, hne with
       | 0, _, _ => exact hO.out.c 0 (by decide) (by decide)
       | 1, _, _ => exact hO.out.c 1 (by decide) (by decide)
       | 2, _, _ => exact hO.out.cj
       | m + 3, h1, h2 => exact absurd (by omega) h2), hO.out.c 3 (by decide) (by decide), hO.out.fz, CR.nil _ _ _ _ _ _, hO.out.bl, (fun _ _ _ => rfl), Nat.le_refl _, Nat.lt_of_lt_of_le hO.out.hO hO.out.hC⟩
     clear o2 hO
     go_upto_region 11 with fail
     clear x0
     obtain ⟨W3, hren⟩ : ∃ W3 : World, W3 = V := ⟨_, rfl⟩
     subst hren
     obtain ⟨BB2, hBB2⟩ : ∃ BB2 : Nat → Nat, BB2 = B := ⟨_, rfl⟩
     subst hBB2
     go_loopw [6] (fun i wr => ∃ (k : Nat) (v : Value) (L : List (Option Addr × Nat × Nat)) (B : Nat → Nat), k ≤ l.length ∧ i = .int .i64 k ∧ Hid (OS w2 W3 w2.heap.size 25 W3.heap.size 3 (fun m => if m = 0 then .slice a' 8 c' else if m = 1 then .slice a1 l.length k1 else .slice a2 l.length k2) wr v k (fun i => (gX l i).rs.length) (fun i k => .int .i64 ((S.vs.getD i []).getD k 0)) L B)) (fun i _ => l.length - (intOf i).toNat)
     case atStart => exact ⟨0, _, [], (fun _ => 0), Nat.zero_le _, rfl, OS0⟩
     case round =>
      obtain ⟨k, v, L, B, hk, rfl, hO⟩ := hrel
      clear OS0
      obtain ⟨V, hren⟩ : ∃ V : World, V = wr := ⟨_, rfl⟩
      subst hren
      have x0 := aA (aC B2.out hO.out.bl) Y3.out
      by_cases hlt : k < l.length
      ·have i1 : (k : Int) < (l.length : Int) := by omega
       obtain ⟨b, off, ar, rc', eR, q1, z0, z3, z1, _⟩ := (HS.out.below (aC B2.out hO.out.bl)).vs.rows HF.out.vs HF.out.vn k hlt
       have RC : Hid (∀ m, m < (gX l k).rs.length → ∃ b1 o1, ar = some (⟨b1, o1, none⟩ : Addr) ∧ V.cell? ⟨b1, o1 + m, none⟩ = some (.int .i64 ((S.vs.getD k []).getD m 0))) := fun m hm => by
        obtain ⟨b1, o1, e, _, d⟩ := z1 m (by rw [z3]; exact hm)
        exact ⟨b1, o1, e, d⟩
       clear z3
       rw [eR] at x0
       clear z1 q1 eR
       have c1 := hO.out.cj
       have oa1 : ∀ o, (V.alloc o).cell? ⟨w2.heap.size, 3, none⟩ = some v := fun o => aA (aB (Below.refl _ _) o) c1
       have ob1 : ∀ o, (V.alloc o).cell? ⟨w.heap.size, 3, none⟩ = some (.slice (some ⟨b, off, none⟩) l.length vc) := fun o => aA (aB (Below.refl _ _) o) x0
       have oc1 : ∀ o, (V.alloc o).cell? ⟨b, off + k, none⟩ = some (.slice ar (gX l k).rs.length rc') := fun o => aA (aB (Below.refl _ _) o) z0
       have hsm : Hid (L.length ≤ 100) := by show _ ≤ _; have e := hO.out.cr.n; omega
       have hVO : Hid (w2.heap.size < V.heap.size) := Nat.lt_of_lt_of_le hO.out.hO hO.out.hC
       have hvO : Hid (v.ownBlock ≠ some w2.heap.size) := fun e => by have := (hO.out.cr.o.lt _ e).1; have := hO.out.hO; omega
       have hr4 : (gX l k).rs.length ≤ 4 := HR4.out k hlt
       have A1 : Hid (∀ (X : World), X.heap = (V.alloc (.cells #[] 3)).heap → X.ownsRow V.heap.size 3 1 (.slice (some ⟨V.heap.size, 0, none⟩) 0 0) 0 []) := fun X hX => mD hX (World.ownsRow_lit V #[] 0 (Nat.le_refl _) (by decide) rfl)
       go_upto_region 13 with fail
       go_region_law (first
        | (refine eU (by rfl) _ _ 25 3 (by rfl) i3 _ Tryz.underlying25 hi3 hz3 hs3 hb3 rfl V.heap.size V.heap.size (by rfl) (A1.out _ rfl) (gX l k).rs.length (fun m => .int .i64 ((S.vs.getD k []).getD m 0)) ar _ (by rfl) (fun m hm => by obtain ⟨b1, o1, e, d⟩ := RC.out m hm; exact ⟨b1, o1, e, aA (aB (aD (Below.refl _ _)) _) d⟩) (fun m _ => rfl) (by omega) (by simp) ?_; intro an cn gn w4 hn4 hg4; have hb4 : Below V.heap.size V w4 := ((aB (aD (Below.refl _ _)) _ : Below V.heap.size V _)).grown hg4 (by simp) (fun q hq => by cases hq; exact Nat.le_refl _); have od : w4.cell? ⟨w2.heap.size, 3, none⟩ = some v := aA hb4 c1; have od2 : ∀ o, (w4.alloc o).cell? ⟨w2.heap.size, 3, none⟩ = some v := fun o => aA (aB hb4 o) c1)
        | (refine bG (by rfl) _ _ 27 25 (by rfl) i25 _ Tryz.underlying27 hi25 hz25 hs25 hb25 rfl W3.heap.size v L.length _ (by rfl) ((hO.out.cr.below (aB hb4 _)).o) ⟨_, 0, none⟩ 1 (.slice an (gX l k).rs.length cn) (by rfl) (aE _ _ 25 _ 0 _ (by simp) rfl) rfl hsm.out (Nat.le_trans hO.out.hC (aB hb4 _ : Below V.heap.size V _).size) ?_; intro v' w5 ho5 hg5 hv5; obtain ⟨g', cap', rfl, _, _⟩ := ho5.form (by simp); have oc : w5.cell? ⟨w2.heap.size, 3, none⟩ = some v := hg5.cell (aA (aB hb4 _) c1) (fun e => hvO.out e.symm); have of5 : w5.frozen? ⟨w2.heap.size, 3, none⟩ = false := (World.frozen?_of_block (a := ⟨w2.heap.size, 3, none⟩) (hg5.block w2.heap.size (Nat.lt_of_lt_of_le hVO.out (aB hb4 _ : Below V.heap.size V _).size) (fun e => hvO.out e.symm))).trans (((aB hb4 _ : Below V.heap.size V _).frozen (p := ⟨w2.heap.size, 3, none⟩) hVO.out).trans (hO.out.fz 3))))
       all_goals (
        obtain ⟨B', hp⟩ := hO.out.push (aB hb4 _) ho5 hg5 hv5 (hn4.below (aB (Below.refl _ _) _))
        have HP : Hid (OS w2 W3 w2.heap.size 25 W3.heap.size 3 (fun m => if m = 0 then .slice a' 8 c' else if m = 1 then .slice a1 l.length k1 else .slice a2 l.length k2) (w5.setCell ⟨w2.heap.size, 3, none⟩ (.slice (some ⟨g', 0, none⟩) (L.length + 1) cap')) (.slice (some ⟨g', 0, none⟩) (L.length + 1) cap') (k + 1) (fun i => (gX l i).rs.length) (fun i k => .int .i64 ((S.vs.getD i []).getD k 0)) (L ++ [(an, (gX l k).rs.length, cn)]) B') := hp
        clear hp hO c1 oa1 ob1 oc1 ho5 hg5 hv5 hn4 hg4 hb4 od od2 oc of5 x0 z0 RC A1
        generalize (w5.setCell ⟨w2.heap.size, 3, none⟩ (.slice (some ⟨g', 0, none⟩) (L.length + 1) cap')) = WF at *
        go_wp2
        go_roundw
        case rel => exact ⟨k + 1, _, _, B', by omega, by go_num, HP⟩
        case measure => simp [intOf]; omega)
      ·have hkk : k = l.length := by omega
       subst hkk
       have i1 : ¬ (l.length : Int) < (l.length : Int) := by omega
       obtain ⟨a3, k3, g3, hv3, o3⟩ := hO.out.cr.fin
       subst hv3
       have z0 : V.cell? ⟨w2.heap.size, 0, none⟩ = some (.slice a' 8 c') := hO.out.c 0 (by decide) (by decide)
       have z1 : V.cell? ⟨w2.heap.size, 1, none⟩ = some (.slice a1 l.length k1) := hO.out.c 1 (by decide) (by decide)
       have z2 : V.cell? ⟨w2.heap.size, 2, none⟩ = some (.slice a2 l.length k2) := hO.out.c 2 (by decide) (by decide)
       have z3 := hO.out.cj
       have bw : Below W.heap.size W V := aC B2.out hO.out.bl
       have t0 := aA bw (T0.out 0 (by decide))
       have t1 := aA bw (T0.out 1 (by decide))
       have t2 := aA bw (T0.out 2 (by decide))
       have t3 := aA bw (T0.out 3 (by decide))
       have tf : ∀ j, V.frozen? ⟨w.heap.size + 1, j, none⟩ = false := fun j => (bw.frozen (p := ⟨w.heap.size + 1, j, none⟩) (by have := sz.out; show w.heap.size + 1 < _; omega)).trans (TF.out j)
       have OWN : Hid (OwnSt W.heap.size V a' a1 a2 a3 c' l sh S g0 W1.heap.size W2.heap.size W3.heap.size V.heap.size g1 g2 g3 BB1 BB2 B) := by
        have e1 := hWw.out
        have e2 := HZ1.out
        have e3 := HZ2.out
        have e4 := hO.out.hC
        exact ⟨R0.out.below hO.out.bl, ⟨by omega, by omega⟩, by omega, by omega, by omega, Nat.le_refl _, (HO1.out.keep (fun b h1 h2 => (HS2.out b (by omega) h2))).keep (fun b h1 h2 => hO.out.sm b (by omega) (by omega)), HO2.out.keep (fun b h1 h2 => hO.out.sm b (by omega) h2), o3, HF.out⟩
       have hlt : w.heap.size + 1 < W.heap.size := by have := sz.out; omega
       have FO : Hid (OwnSt W.heap.size ((((V.setCell ⟨w.heap.size + 1, 0, none⟩ (.slice a' 8 c')).setCell ⟨w.heap.size + 1, 1, none⟩ (.slice a1 l.length k1)).setCell ⟨w.heap.size + 1, 2, none⟩ (.slice a2 l.length k2)).setCell ⟨w.heap.size + 1, 3, none⟩ (.slice a3 l.length k3)) a' a1 a2 a3 c' l sh S g0 W1.heap.size W2.heap.size W3.heap.size V.heap.size g1 g2 g3 BB1 BB2 B) := (((OWN.out.set _ 0 _ hlt).set _ 1 _ hlt).set _ 2 _ hlt).set _ 3 _ hlt
       have FB : Hid (Below w.heap.size w ((((V.setCell ⟨w.heap.size + 1, 0, none⟩ (.slice a' 8 c')).setCell ⟨w.heap.size + 1, 1, none⟩ (.slice a1 l.length k1)).setCell ⟨w.heap.size + 1, 2, none⟩ (.slice a2 l.length k2)).setCell ⟨w.heap.size + 1, 3, none⟩ (.slice a3 l.length k3))) := aG (aG (aG (aG (aC hW.out bw) (by simp) _) (by simp) _) (by simp) _) (by simp) _
       have SZ : Hid (((((V.setCell ⟨w.heap.size + 1, 0, none⟩ (.slice a' 8 c')).setCell ⟨w.heap.size + 1, 1, none⟩ (.slice a1 l.length k1)).setCell ⟨w.heap.size + 1, 2, none⟩ (.slice a2 l.length k2)).setCell ⟨w.heap.size + 1, 3, none⟩ (.slice a3 l.length k3)).heap.size = V.heap.size) := by show _ = _; simp
       have u0 : ((((V.setCell ⟨w.heap.size + 1, 0, none⟩ (.slice a' 8 c')).setCell ⟨w.heap.size + 1, 1, none⟩ (.slice a1 l.length k1)).setCell ⟨w.heap.size + 1, 2, none⟩ (.slice a2 l.length k2)).setCell ⟨w.heap.size + 1, 3, none⟩ (.slice a3 l.length k3)).cell? ⟨w.heap.size + 1, 0, none⟩ = some (.slice a' 8 c') := (aH (by decide) (aH (by decide) (aH (by decide) (aK t0))))
       have u1 : ((((V.setCell ⟨w.heap.size + 1, 0, none⟩ (.slice a' 8 c')).setCell ⟨w.heap.size + 1, 1, none⟩ (.slice a1 l.length k1)).setCell ⟨w.heap.size + 1, 2, none⟩ (.slice a2 l.length k2)).setCell ⟨w.heap.size + 1, 3, none⟩ (.slice a3 l.length k3)).cell? ⟨w.heap.size + 1, 1, none⟩ = some (.slice a1 l.length k1) := (aH (by decide) (aH (by decide) (aK (aH (by decide) t1))))
       have u2 : ((((V.setCell ⟨w.heap.size + 1, 0, none⟩ (.slice a' 8 c')).setCell ⟨w.heap.size + 1, 1, none⟩ (.slice a1 l.length k1)).setCell ⟨w.heap.size + 1, 2, none⟩ (.slice a2 l.length k2)).setCell ⟨w.heap.size + 1, 3, none⟩ (.slice a3 l.length k3)).cell? ⟨w.heap.size + 1, 2, none⟩ = some (.slice a2 l.length k2) := (aH (by decide) (aK (aH (by decide) (aH (by decide) t2))))
       have u3 : ((((V.setCell ⟨w.heap.size + 1, 0, none⟩ (.slice a' 8 c')).setCell ⟨w.heap.size + 1, 1, none⟩ (.slice a1 l.length k1)).setCell ⟨w.heap.size + 1, 2, none⟩ (.slice a2 l.length k2)).setCell ⟨w.heap.size + 1, 3, none⟩ (.slice a3 l.length k3)).cell? ⟨w.heap.size + 1, 3, none⟩ = some (.slice a3 l.length k3) := (aK (aH (by decide) (aH (by decide) (aH (by decide) t3))))
       clear OWN o3 hO HO1 HO2 HS1 HS2 HZ1 HZ2 bw
       go_wp2_with fail
       generalize ((((V.setCell ⟨w.heap.size + 1, 0, none⟩ (.slice a' 8 c')).setCell ⟨w.heap.size + 1, 1, none⟩ (.slice a1 l.length k1)).setCell ⟨w.heap.size + 1, 2, none⟩ (.slice a2 l.length k2)).setCell ⟨w.heap.size + 1, 3, none⟩ (.slice a3 l.length k3)) = WF at *
       refine bodyPost_ret (v := .agg #[.slice a' 8 c', .slice a1 l.length k1, .slice a2 l.length k2, .slice a3 l.length k3]) (by simp [results, Tryz.results40, go_sem, u0, u1, u2, u3]) rfl ⟨a', a1, a2, a3, c', ⟨k1, k2, k3, rfl⟩, ⟨g0, W1.heap.size, W2.heap.size, W3.heap.size, g1, g2, g3, BB1, BB2, B, ?_⟩, FB.out⟩
       rw [SZ.out]
       exact FO.out.low (by have := sz.out; omega)
end Go.Proofs.YtebjkmknhpgemaaGreat
