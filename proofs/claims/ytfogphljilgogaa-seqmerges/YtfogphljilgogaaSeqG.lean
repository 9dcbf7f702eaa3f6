/-
  seq.Merge: all batches in the order of the sequence.
  Conditions: the batches can be read.
-/
import Derived.Test.YtfogphljilgogaaSeqF
import Derived.RangeFuncNested
import Derived.RangeFuncBound
import Derived.RangeFuncCalls
import Derived.RangeFuncLeaves
import Derived.RangeFuncFrom
import Derived.Shelf.Abstract
import Derived.Shelf.RegionOpen
import Derived.WalkKit
import Derived.OwnWalkIn
import Derived.TacticsInMore
import Derived.LoopNIn
import Derived.LoopIn
import Derived.ProofKit
namespace Go.Proofs.Ytfogphljilgogaa
open Go.RowKit Go.Shelf
attribute [local go_sem] Oper.semAt_some

variable (qa : Option Addr) (qc : Nat) (ss : List StA)

/-- What is merged. -/
def mergedX (es : List EvA) : List TxA := es.flatMap (fun e => e.b.l)

theorem chkS_zero {ss : List StA} (h : chkS ss = 0) : tooManyV ss = false ∧ ∀ b ∈ allB ss, chkL b.l = 0 := by
  unfold chkS at h
  cases ht : tooManyV ss with
  | true => rw [ht] at h; simp at h
  | false =>
    rw [ht] at h
    refine ⟨rfl, fun b hb => ?_⟩
    have h' : firstNZ ((allB ss).map (fun b => chkL b.l)) = 0 := by simpa using h
    obtain ⟨k, hk, rfl⟩ := List.mem_iff_getElem.1 hb
    have := map_zero (fun b : BtA => chkL b.l) (allB ss) b0 h' k hk
    simpa [List.getD, hk] using this

/-- An append of a row of transactions to a row of transactions, both of one's own. -/
theorem run_append_row (w : World) (ty : TypeId) (C C' : Nat) (v u : Value) (l m : List TxA) (hown : TxRow C w v l) (hu : TxRow C' w u m) (hC : C ≤ C') (hv : ∀ j, v.ownBlock = some j → j < C') (hsm : l.length + m.length ≤ 1000) (hbase : C ≤ w.heap.size) :
    ∃ v' w', (Builtin.append_ #[37, 37] ty #[v, u]).run Try.prog w = .ok v' w' ∧ TxRow C w' v' (l ++ m) ∧ w.grownBy w' v.ownBlock := by
  obtain ⟨i, hi, hz, hsz, hby⟩ := info_parts Try.info26
  have hm : ∀ x ∈ m, IsX w x ∧ XIn C w.heap.size v x := fun x hx => by
    obtain ⟨h1, h2⟩ := hu.2 x hx
    exact ⟨h1, ⟨h2.r.widen hC (Nat.le_refl _), h2.g.widen hC (Nat.le_refl _), h2.s.widen hC (Nat.le_refl _), fun ad e q => by have := hv _ q; have := (h2.r ad e).1; omega, fun ad e q => by have := hv _ q; have := (h2.g ad e).1; omega, fun ad e q => by have := hv _ q; have := (h2.s ad e).1; omega⟩⟩
  rcases hu.1.2 with ⟨rfl, h0⟩ | ⟨g, cap, cur, hue, hb, hg, hnc, hcm, hcs, htake⟩
  · have hm0 : m = [] := List.eq_nil_of_length_eq_zero h0
    subst hm0
    refine ⟨v, w, run_append_nil (P := Try.prog) (w := w) C 37 ty 26 i 3 Try.underlying37 hi v l.length 0 (flatX l) hown.1, by rw [List.append_nil]; exact hown, World.grownBy.refl _ _⟩
  · subst hue
    have hnews : ∀ j u, (flatX m)[j]? = some u → w.cell? ((⟨g, 0, none⟩ : Addr).add j) = some u := fun j u hj => hu.1.cells (g := g) rfl j u hj
    obtain ⟨v', w', hrun, h2, h3, _, h5⟩ := run_append_own_at (P := Try.prog) w C 37 ty 26 i _ 3 72 Try.underlying37 hi hz hsz hby rfl (by decide) v l.length (flatX l) hown.1 ⟨g, 0, none⟩ m.length cap (flatX m) (flatX_len m) hnews (flatX_one m) (by unfold maxLen; omega) (by omega) hbase
    exact ⟨v', w', hrun, hown.push h2 h3 h5 hm, h3⟩

theorem stepIn_append_row {F : Fence} {n : Nat} {w : World} {ops : Array Oper} {o : Oper} {a : Act} {K : Act → World → Prop} {Q : Exit → Act → World → Prop} {E : Prop} (hgd : o.guard = none) (s x : Operand)
    (ho : o.op = .call { callee := .builtin .append, args := #[s, x], argTypes := #[37, 37] })
    (C C' : Nat) (v u : Value) (l m : List TxA) (hs : a.eval s = v) (hx : a.eval x = u) (hown : TxRow C w v l) (hu : TxRow C' w u m) (hC : C ≤ C') (hv : ∀ j, v.ownBlock = some j → j < C') (hsm : l.length + m.length ≤ 1000) (hbase : C ≤ w.heap.size)
    (h : ∀ v' w', TxRow C w' v' (l ++ m) → w.grownBy w' v.ownBlock → K (a.put o.dst v') w') :
    if Region.wanted o (yielded ops a.tmps) = true then Oper.wpIn F n Try.prog o a w K Q else E := by
  have hw : Region.wanted o (yielded ops a.tmps) = true := by simp [Region.wanted, hgd]
  rw [if_pos hw]
  obtain ⟨v', w', hrun, h2, h3⟩ := run_append_row w o.type C C' v u l m hown hu hC hv hsm hbase
  unfold Oper.wpIn
  refine ⟨?_, ?_⟩
  · simp [Oper.about, ho, resolve, Target.leads, Sem.run_pure]
  · rw [Oper.semAt_plain F _ _ (by rw [ho]; intro c hc'; cases hc')]
    simp [execOp, ho, resolve, invoke, builtin, hs, hx, hrun, Result.andThen]
    exact h v' w' h2 h3

theorem own_ints {w w' : World} {row : Option Nat} {a : Option Addr} {zs : List Int} (h : IsInts w a zs) (hg : w.grownBy w' row) (hr : ∀ r, row = some r → ∃ o : Obj, w.heap[r]? = some o ∧ o.isCells = false) : IsInts w' a zs := fun i hi => by
  obtain ⟨b, off, ha, hlt, hc⟩ := h i hi
  exact ⟨b, off, ha, Nat.lt_of_lt_of_le hlt hg.size, cell_kept hc hg hr⟩
theorem own_gs {w w' : World} {row : Option Nat} {a : Option Addr} {zs : List Gd} (h : IsGs w a zs) (hg : w.grownBy w' row) (hr : ∀ r, row = some r → ∃ o : Obj, w.heap[r]? = some o ∧ o.isCells = false) : IsGs w' a zs := fun i hi => by
  obtain ⟨b, off, ha, hlt, c0, c1, c2, c3, c4⟩ := h i hi
  exact ⟨b, off, ha, Nat.lt_of_lt_of_le hlt hg.size, cell_kept c0 hg hr, cell_kept c1 hg hr, cell_kept c2 hg hr, cell_kept c3 hg hr, cell_kept c4 hg hr⟩
theorem own_ss {w w' : World} {row : Option Nat} {a : Option Addr} {zs : List St} (h : IsSs w a zs) (hg : w.grownBy w' row) (hr : ∀ r, row = some r → ∃ o : Obj, w.heap[r]? = some o ∧ o.isCells = false) : IsSs w' a zs := fun i hi => by
  obtain ⟨b, off, ha, hlt, c0, c1, c2, c3, c4, c5⟩ := h i hi
  exact ⟨b, off, ha, Nat.lt_of_lt_of_le hlt hg.size, cell_kept c0 hg hr, cell_kept c1 hg hr, cell_kept c2 hg hr, cell_kept c3 hg hr, cell_kept c4 hg hr, cell_kept c5 hg hr⟩
theorem row_cells {C : Nat} {w : World} {v : Value} {l : List TxA} (h : TxRow C w v l) : ∀ (j : Nat) (o : Obj), v.ownBlock = some j → w.heap[j]? = some o → o.isCells = true := fun j o hj ho => by
  rcases h.1.2 with ⟨rfl, _⟩ | ⟨g, cap, cur, rfl, _, hg, _⟩
  · simp [Value.ownBlock] at hj
  · simp [Value.ownBlock] at hj
    subst hj
    rw [hg] at ho
    injection ho with ho
    subst ho
    rfl
theorem TxRow.own {C : Nat} {w w' : World} {v : Value} {l : List TxA} {row : Option Nat} (h : TxRow C w v l) (hg : w.grownBy w' row) (hr : ∀ r, row = some r → ∃ o : Obj, w.heap[r]? = some o ∧ o.isCells = false) : TxRow C w' v l := by
  refine ⟨h.1.kept hg ?_, fun x hm => ?_⟩
  · cases ho : v.ownBlock with
    | none => exact .inl rfl
    | some j => exact .inr (fun e => by
        obtain ⟨o, h1, h2⟩ := hr j e.symm
        rw [row_cells h j o ho h1] at h2
        cases h2)
  · obtain ⟨h1, h2⟩ := h.2 x hm
    exact ⟨⟨⟨own_ints h1.t.r hg hr, own_gs h1.t.g hg hr, own_ss h1.t.s hg hr, h1.t.lr, h1.t.lg, h1.t.ls⟩, h1.rn, h1.gn, h1.sn⟩, h2.widen (Nat.le_refl _) hg.size⟩
theorem mergedX_snoc (es : List EvA) (e : EvA) : mergedX (es ++ [e]) = mergedX es ++ e.b.l := by simp [mergedX]

set_option maxRecDepth 100000 in
set_option maxHeartbeats 1000000 in
theorem merge_bad (w : World) (hS : IsSt w qa ss) (hsl : ss.length ≤ maxLen) (hE : ¬ chkS ss = 0) :
    Calls Try.prog 32 #[.slice qa ss.length qc] w fun e w' => e = .returned (.tuple #[.slice none 0 0, .int .i64 (chkS ss)]) ∧ Below w.heap.size w w' := by
  have CC : Hid (Calls Try.prog 61 #[.slice qa ss.length qc] w fun e w' => e = .returned (.int .i64 (chkS ss)) ∧ Below w.heap.size w w') := seqCheck_any qa qc ss w hS hsl
  generalize chkS ss = E at *
  have hne : (E != 0) = true := by simpa using hE
  clear hS hE
  go_enter Try.func32, Try.ntmps32
  go_wp2_with fail
  refine CC.out.mono ?_
  rintro e w1 ⟨rfl, hb1⟩
  go_wp2
  go_ret2
  exact ⟨rfl, hb1⟩

theorem evs_len (ss : List StA) (h : ss.length ≤ 3) : (evs ss).length ≤ 18 := by
  have h1 : ∀ e k, (rowTo ss e k).length ≤ k := fun e k => by
    induction k with
    | zero => exact Nat.le_refl _
    | succ k ih =>
      rw [rowTo, List.length_append]
      split <;> simp <;> omega
  have h2 : ∀ e, (epTo ss e).length ≤ e * 3 := fun e => by
    induction e with
    | zero => exact Nat.le_refl _
    | succ e ih =>
      rw [epTo, List.length_append]
      have := h1 e ss.length
      omega
  have := h2 6
  unfold evs
  omega
theorem mergedX_len (P : EvA → Prop) (hP : ∀ x, P x → x.b.l.length ≤ 8) {w : World} : ∀ pre : List (Ev w P), (mergedX (pre.map Subtype.val)).length ≤ 8 * pre.length
  | [] => Nat.le_refl _
  | x :: t => by
    have h := mergedX_len P hP t
    have h1 := hP x.1 x.2.2.2.2
    have e : mergedX ((x :: t).map Subtype.val) = x.1.b.l ++ mergedX (t.map Subtype.val) := rfl
    rw [e, List.length_append, List.length_cons]
    omega

set_option maxRecDepth 100000 in
set_option maxHeartbeats 2000000 in
theorem merge_ok (w : World) (hS : IsSt w qa ss) (hsl : ss.length ≤ maxLen) (hE : chkS ss = 0) (h3 : ss.length ≤ 3) (hR : ∀ e ∈ evs ss, chkL e.b.l = 0) :
    Calls Try.prog 32 #[.slice qa ss.length qc] w fun e w' => ∃ v cl, e = .returned (.tuple #[v, .int .i64 0]) ∧ TxRow w.heap.size w' v cl ∧ cl.map TxA.core = (mergedX (evs ss)).map TxA.core ∧ Below w.heap.size w w' := by
  have CC : Hid (Calls Try.prog 61 #[.slice qa ss.length qc] w fun e w' => e = .returned (.int .i64 0) ∧ Below w.heap.size w w') := by
    have h := seqCheck_any qa qc ss w hS hsl
    rw [hE] at h
    exact h
  have HS : Hid (IsSt w qa ss) := hS
  have HN := evs_len ss h3
  have HRR : Hid (∀ e ∈ evs ss, chkL e.b.l = 0) := hR
  clear hS hE hR h3
  refine (callsIn_wide (n := 8)).1 ?_
  refine callsIn_of_wp_marks Try.func32 rfl trivial ?_ rfl
  simp only [Try.ntmps32, List.size_toArray, List.length_cons, List.length_nil, Nat.reduceAdd, Nat.reduceSub, Array.replicate_succ, Array.replicate_zero, List.push_toArray, List.append_toArray, List.nil_append, List.cons_append]
  gi_wp2_with (first | (refine ⟨trivial, ?_⟩; gi_at_call 61; refine (callsIn_wide.2 CC.out).mono ?_; rintro e w1 ⟨rfl, hb1⟩) | (refine ⟨trivial, ?_⟩; gi_at_call 62; refine (callsIn_wide.2 (byEpoch_any qa qc ss.length _)).mono ?_; rintro e w2 ⟨rfl, rfl⟩))
  have hs := box_new w1 (.slice none 0 0) 37
  have hb := box_new (w1.alloc (.cells #[.slice none 0 0] 37)) (.slice qa ss.length qc) 67
  rw [World.size_alloc] at hb
  have hB0 : Below w.heap.size w ((w1.alloc (.cells #[.slice none 0 0] 37)).alloc (.cells #[.slice qa ss.length qc] 67)) := grow_alloc (grow_alloc hb1 _) _
  have hws := hb1.size
  refine wpIn_rangeFunc_ownF rfl (by omega) (gf := 88) (lb := #[.pointer (some ⟨w1.heap.size + 1, 0, none⟩)]) rfl trivial (enters_of Try.func88 (by kernel_rfl) rfl)
    (byEpoch_stops qa qc ss (fun x => chkL x.b.l = 0) 7 (by omega) w _ HS.out hsl HRR.out hB0 (w1.heap.size + 1) hb.1) kpE_t (kpE_b hB0.size (by simp)) (Below.refl _ _) (fun _ => rfl)
    (fun pre W => (∃ v cl, W.cell? ⟨w1.heap.size, 0, none⟩ = some v ∧ W.frozen? ⟨w1.heap.size, 0, none⟩ = false ∧ W.cell? ⟨w1.heap.size + 1, 0, none⟩ = some (.slice qa ss.length qc) ∧ TxRow (w1.heap.size + 2) W v cl ∧ cl.map TxA.core = (mergedX (pre.map Subtype.val)).map TxA.core) ∧ Below w.heap.size w W)
    (fun _ _ _ => False)
    (OwnFrom.and (Own.from (fun s A B row hs hg hr => by obtain ⟨v, cl, h1, h2, h3, h4, h5⟩ := hs; exact ⟨v, cl, cell_kept h1 hg hr, (frozen_kept h1 hg hr).trans h2, cell_kept h3 hg hr, h4.own hg hr, h5⟩) _) (ownFrom_below (Nat.le_refl _) hB0.size))
    (fun _ _ _ _ _ hs _ _ => hs)
    ⟨⟨.slice none 0 0, [], box_cell _ hs.1, box_frozen _ hs.1 hs.2, hb.1, txRow_nil _ _, rfl⟩, hB0⟩
    (fun x => { tmps := #[.slice qa ss.length qc, undef, .slice none 0 0, .int .i64 0, .int .i64 0, .pointer (some ⟨w1.heap.size, 0, none⟩), undef, .slice x.1.b.a x.1.b.l.length x.1.b.c, .slice qa ss.length qc, .int .i64 0, .int .i64 0, .bool false, undef, .slice qa ss.length qc, .func (.func 88) #[] #[.pointer (some ⟨w1.heap.size + 1, 0, none⟩)], .agg #[.int .i64 x.1.s, .int .i64 x.1.e], .slice x.1.b.a x.1.b.l.length x.1.b.c, undef, undef, undef, undef, undef], defers := [] }) ?assign ?body ?done ?stop
  case assign =>
    intro l x W K hK
    gi_wp2
    exact hK
  case body =>
    rintro l pre x W ⟨⟨v, cl, hc, hf, hbx, hrow, hcore⟩, hB⟩ hlen
    have hx8 := chkL_len x.2.2.2.2
    have hpl := mergedX_len (fun x => chkL x.b.l = 0) (fun x h => chkL_len h) pre
    have hcl : cl.length = (mergedX (pre.map Subtype.val)).length := by have := congrArg List.length hcore; simpa using this
    have HSN : Hid (mergedX ((pre ++ [x]).map Subtype.val) = mergedX (pre.map Subtype.val) ++ x.1.b.l) := by show _ = _; rw [List.map_append]; exact mergedX_snoc _ _
    have CO : Hid (∀ w', Below W.heap.size W w' → Calls Try.prog 63 #[.slice x.1.b.a x.1.b.l.length x.1.b.c] w' fun e w'' => ∃ v cl, e = .returned v ∧ TxRow w'.heap.size w'' v cl ∧ cl.map TxA.core = x.1.b.l.map TxA.core ∧ Below w'.heap.size w' w'') := fun w' h => copy_any _ _ _ w' ((x.2.1.below hB).below h) x.2.2.2.2
    obtain ⟨va, vc, rfl, _⟩ := hrow.txs
    have HROW : Hid (TxRow (w1.heap.size + 2) W (.slice va cl.length vc) cl) := hrow
    have HCORE : Hid (cl.map TxA.core = (mergedX (pre.map Subtype.val)).map TxA.core) := hcore
    have HB : Hid (Below w.heap.size w W) := hB
    have hWs : w1.heap.size + 2 ≤ W.heap.size := by
      have := World.block_lt_of_cell? W _ hbx
      simp at this
      omega
    have hlow : Hid (∀ j, (Value.slice va cl.length vc).ownBlock = some j → w1.heap.size + 2 ≤ j ∧ j < W.heap.size) := fun j hj => hrow.1.lt j hj
    have hcl2 : Hid (cl.length + x.1.b.l.length ≤ 1000) := by show _ ≤ _; omega
    clear hrow hcore hB hpl hcl
    have hmx : Try.prog.follows .mixedOrders = true := by kernel_rfl
    gi_wp2
    refine wpIn_region_any hmx ?_
    change wpAnyIn _ _ _ _ _ _ _ _ _ (World.drew _)
    refine wpAnyIn_ready (rs := [0, 1]) (by kernel_rfl) (by simp) ?_
    refine AllReadyIn.cons rfl (fun K hK => ?_) (AllReadyIn.cons rfl (fun K hK => ?_) AllReadyIn.nil)
    · (go_simp; refine hK _ _ ?_; clear hK K)
      refine wpAnyIn_ready (rs := [1]) (by kernel_rfl) (by simp) ?_
      refine AllReadyIn.cons rfl (fun K hK => ?_) AllReadyIn.nil
      (go_simp; refine hK _ _ ?_; clear hK K)
      refine wpAnyIn_ready (rs := [2]) (by kernel_rfl) (by simp) ?_
      refine AllReadyIn.cons rfl (fun K hK => ?_) AllReadyIn.nil
      (go_simp; refine ⟨trivial, ?_⟩; gi_at_call 63; refine (CallsIn.inRound l (callsIn_wide.2 (CO.out _ (grow_drew (Below.refl _ _))))).mono ?_; rintro e w5 ⟨u, m, rfl, hm5, hcm5, hb5⟩; have hbW5 : Below W.heap.size W w5 := grow_trans (grow_drew (Below.refl _ _)) hb5; have hc5 := ext_cell hbW5 hc; go_simp; refine hK _ _ ?_; clear hK K)
      refine wpAnyIn_ready (rs := [3]) (by kernel_rfl) (by simp) ?_
      refine AllReadyIn.cons rfl (fun K hK => ?_) AllReadyIn.nil
      have hml5 : cl.length + m.length ≤ 1000 := by
        have h := congrArg List.length hcm5
        rw [List.length_map, List.length_map] at h
        rw [h]
        exact hcl2.out
      refine stepIn_append_row (by rfl) _ _ (by rfl) (w1.heap.size + 2) W.heap.size (.slice va cl.length vc) u cl m (by rfl) (by rfl) (HROW.out.below hbW5) hm5 hWs (fun j hj => (hlow.out j hj).2) hml5 (Nat.le_trans hWs hbW5.size) ?_
      intro v6 w6 hr6 hg6
      have hsz5 := hbW5.size
      have hnT : ∀ b, b < w1.heap.size + 2 → some b ≠ (Value.slice va cl.length vc).ownBlock := fun b hb e => by have := (hlow.out b e.symm).1; omega
      have hc6 : w6.cell? ⟨w1.heap.size, 0, none⟩ = some (.slice va cl.length vc) := hg6.cell (ext_cell hbW5 hc) (hnT w1.heap.size (by omega))
      have hf6 : w6.frozen? ⟨w1.heap.size, 0, none⟩ = false := (hg6.frozen_far ⟨w1.heap.size, 0, none⟩ (by show w1.heap.size < _; omega) (hnT w1.heap.size (by omega))).trans ((hbW5.frozen (p := ⟨w1.heap.size, 0, none⟩) (by show w1.heap.size < _; omega)).trans hf)
      have hbx6 : w6.cell? ⟨w1.heap.size + 1, 0, none⟩ = some (.slice qa ss.length qc) := hg6.cell (ext_cell hbW5 hbx) (hnT (w1.heap.size + 1) (by omega))
      have hk6 : KeepsOthers W w6 := (keeps_below hbW5).trans (KeepsOthers.of_grownBy hg6 (row_cells (HROW.out.below hbW5)))
      have hB6 : Below w.heap.size W w6 := Below.grown (hbW5.mono HB.out.size) hg6 (Nat.le_trans HB.out.size hbW5.size) (fun j hj => by have := (hlow.out j hj).1; omega)
      obtain ⟨va6, vc6, rfl, _⟩ := hr6.txs
      have HR6 : Hid (TxRow (w1.heap.size + 2) (w6.setCell ⟨w1.heap.size, 0, none⟩ (.slice va6 (cl ++ m).length vc6)) (.slice va6 (cl ++ m).length vc6) (cl ++ m)) := hr6.kept (grownBy_one w6 w1.heap.size 0 _) (fun j e => by injection e with e; omega)
      have HC6 : Hid ((cl ++ m).map TxA.core = (mergedX ((pre ++ [x]).map Subtype.val)).map TxA.core) := by
        show _ = _
        rw [HSN.out, List.map_append, List.map_append, HCORE.out, hcm5]
      refine hK _ _ ?_
      clear hK K hr6 hg6 hm5 hcm5 hb5 CO HSN HCORE HROW hlow hnT
      generalize cl ++ m = cm at *
      refine wpAnyIn_ready (rs := [4]) (by kernel_rfl) (by simp) ?_
      refine AllReadyIn.cons rfl (fun K hK => ?_) AllReadyIn.nil
      (go_simp; refine hK _ _ ?_; clear hK K)
      refine wpAnyIn_done (by kernel_rfl) ?_ _
      gi_wp2
      exact ⟨hk6.trans (KeepsOthers.setCell _ _ _), ⟨hB6.setCell (p := ⟨w1.heap.size, 0, none⟩) hws _, by rw [World.cell?_setCell_far _ _ _ _ (by simp), hbx6, hbx]⟩, ⟨_, World.cell?_setCell_same' _ _ _ (by rw [hc6]; rfl), by rw [World.frozen?_setCell]; exact hf6, by rw [World.cell?_setCell_far _ _ _ _ (by simp)]; exact hbx6, cm, HR6.out, HC6.out⟩, grow_set (HB.out.trans hB6) (show w.heap.size ≤ w1.heap.size from hws) _⟩
    · (go_simp; refine hK _ _ ?_; clear hK K)
      refine wpAnyIn_ready (rs := [0, 2]) (by kernel_rfl) (by simp) ?_
      refine AllReadyIn.cons rfl (fun K hK => ?_) (AllReadyIn.cons rfl (fun K hK => ?_) AllReadyIn.nil)
      · (go_simp; refine hK _ _ ?_; clear hK K)
        refine wpAnyIn_ready (rs := [2]) (by kernel_rfl) (by simp) ?_
        refine AllReadyIn.cons rfl (fun K hK => ?_) AllReadyIn.nil
        (go_simp; refine ⟨trivial, ?_⟩; gi_at_call 63; refine (CallsIn.inRound l (callsIn_wide.2 (CO.out _ (grow_drew (Below.refl _ _))))).mono ?_; rintro e w5 ⟨u, m, rfl, hm5, hcm5, hb5⟩; have hbW5 : Below W.heap.size W w5 := grow_trans (grow_drew (Below.refl _ _)) hb5; have hc5 := ext_cell hbW5 hc; go_simp; refine hK _ _ ?_; clear hK K)
        refine wpAnyIn_ready (rs := [3]) (by kernel_rfl) (by simp) ?_
        refine AllReadyIn.cons rfl (fun K hK => ?_) AllReadyIn.nil
        have hml5 : cl.length + m.length ≤ 1000 := by
          have h := congrArg List.length hcm5
          rw [List.length_map, List.length_map] at h
          rw [h]
          exact hcl2.out
        refine stepIn_append_row (by rfl) _ _ (by rfl) (w1.heap.size + 2) W.heap.size (.slice va cl.length vc) u cl m (by rfl) (by rfl) (HROW.out.below hbW5) hm5 hWs (fun j hj => (hlow.out j hj).2) hml5 (Nat.le_trans hWs hbW5.size) ?_
        intro v6 w6 hr6 hg6
        have hsz5 := hbW5.size
        have hnT : ∀ b, b < w1.heap.size + 2 → some b ≠ (Value.slice va cl.length vc).ownBlock := fun b hb e => by have := (hlow.out b e.symm).1; omega
        have hc6 : w6.cell? ⟨w1.heap.size, 0, none⟩ = some (.slice va cl.length vc) := hg6.cell (ext_cell hbW5 hc) (hnT w1.heap.size (by omega))
        have hf6 : w6.frozen? ⟨w1.heap.size, 0, none⟩ = false := (hg6.frozen_far ⟨w1.heap.size, 0, none⟩ (by show w1.heap.size < _; omega) (hnT w1.heap.size (by omega))).trans ((hbW5.frozen (p := ⟨w1.heap.size, 0, none⟩) (by show w1.heap.size < _; omega)).trans hf)
        have hbx6 : w6.cell? ⟨w1.heap.size + 1, 0, none⟩ = some (.slice qa ss.length qc) := hg6.cell (ext_cell hbW5 hbx) (hnT (w1.heap.size + 1) (by omega))
        have hk6 : KeepsOthers W w6 := (keeps_below hbW5).trans (KeepsOthers.of_grownBy hg6 (row_cells (HROW.out.below hbW5)))
        have hB6 : Below w.heap.size W w6 := Below.grown (hbW5.mono HB.out.size) hg6 (Nat.le_trans HB.out.size hbW5.size) (fun j hj => by have := (hlow.out j hj).1; omega)
        obtain ⟨va6, vc6, rfl, _⟩ := hr6.txs
        have HR6 : Hid (TxRow (w1.heap.size + 2) (w6.setCell ⟨w1.heap.size, 0, none⟩ (.slice va6 (cl ++ m).length vc6)) (.slice va6 (cl ++ m).length vc6) (cl ++ m)) := hr6.kept (grownBy_one w6 w1.heap.size 0 _) (fun j e => by injection e with e; omega)
        have HC6 : Hid ((cl ++ m).map TxA.core = (mergedX ((pre ++ [x]).map Subtype.val)).map TxA.core) := by
          show _ = _
          rw [HSN.out, List.map_append, List.map_append, HCORE.out, hcm5]
        refine hK _ _ ?_
        clear hK K hr6 hg6 hm5 hcm5 hb5 CO HSN HCORE HROW hlow hnT
        generalize cl ++ m = cm at *
        refine wpAnyIn_ready (rs := [4]) (by kernel_rfl) (by simp) ?_
        refine AllReadyIn.cons rfl (fun K hK => ?_) AllReadyIn.nil
        (go_simp; refine hK _ _ ?_; clear hK K)
        refine wpAnyIn_done (by kernel_rfl) ?_ _
        gi_wp2
        exact ⟨hk6.trans (KeepsOthers.setCell _ _ _), ⟨hB6.setCell (p := ⟨w1.heap.size, 0, none⟩) hws _, by rw [World.cell?_setCell_far _ _ _ _ (by simp), hbx6, hbx]⟩, ⟨_, World.cell?_setCell_same' _ _ _ (by rw [hc6]; rfl), by rw [World.frozen?_setCell]; exact hf6, by rw [World.cell?_setCell_far _ _ _ _ (by simp)]; exact hbx6, cm, HR6.out, HC6.out⟩, grow_set (HB.out.trans hB6) (show w.heap.size ≤ w1.heap.size from hws) _⟩
      · (go_simp; refine ⟨trivial, ?_⟩; gi_at_call 63; refine (CallsIn.inRound l (callsIn_wide.2 (CO.out _ (grow_drew (Below.refl _ _))))).mono ?_; rintro e w5 ⟨u, m, rfl, hm5, hcm5, hb5⟩; have hbW5 : Below W.heap.size W w5 := grow_trans (grow_drew (Below.refl _ _)) hb5; have hc5 := ext_cell hbW5 hc; go_simp; refine hK _ _ ?_; clear hK K)
        refine wpAnyIn_ready (rs := [0]) (by kernel_rfl) (by simp) ?_
        refine AllReadyIn.cons rfl (fun K hK => ?_) AllReadyIn.nil
        (go_simp; refine hK _ _ ?_; clear hK K)
        refine wpAnyIn_ready (rs := [3]) (by kernel_rfl) (by simp) ?_
        refine AllReadyIn.cons rfl (fun K hK => ?_) AllReadyIn.nil
        have hml5 : cl.length + m.length ≤ 1000 := by
          have h := congrArg List.length hcm5
          rw [List.length_map, List.length_map] at h
          rw [h]
          exact hcl2.out
        refine stepIn_append_row (by rfl) _ _ (by rfl) (w1.heap.size + 2) W.heap.size (.slice va cl.length vc) u cl m (by rfl) (by rfl) (HROW.out.below hbW5) hm5 hWs (fun j hj => (hlow.out j hj).2) hml5 (Nat.le_trans hWs hbW5.size) ?_
        intro v6 w6 hr6 hg6
        have hsz5 := hbW5.size
        have hnT : ∀ b, b < w1.heap.size + 2 → some b ≠ (Value.slice va cl.length vc).ownBlock := fun b hb e => by have := (hlow.out b e.symm).1; omega
        have hc6 : w6.cell? ⟨w1.heap.size, 0, none⟩ = some (.slice va cl.length vc) := hg6.cell (ext_cell hbW5 hc) (hnT w1.heap.size (by omega))
        have hf6 : w6.frozen? ⟨w1.heap.size, 0, none⟩ = false := (hg6.frozen_far ⟨w1.heap.size, 0, none⟩ (by show w1.heap.size < _; omega) (hnT w1.heap.size (by omega))).trans ((hbW5.frozen (p := ⟨w1.heap.size, 0, none⟩) (by show w1.heap.size < _; omega)).trans hf)
        have hbx6 : w6.cell? ⟨w1.heap.size + 1, 0, none⟩ = some (.slice qa ss.length qc) := hg6.cell (ext_cell hbW5 hbx) (hnT (w1.heap.size + 1) (by omega))
        have hk6 : KeepsOthers W w6 := (keeps_below hbW5).trans (KeepsOthers.of_grownBy hg6 (row_cells (HROW.out.below hbW5)))
        have hB6 : Below w.heap.size W w6 := Below.grown (hbW5.mono HB.out.size) hg6 (Nat.le_trans HB.out.size hbW5.size) (fun j hj => by have := (hlow.out j hj).1; omega)
        obtain ⟨va6, vc6, rfl, _⟩ := hr6.txs
        have HR6 : Hid (TxRow (w1.heap.size + 2) (w6.setCell ⟨w1.heap.size, 0, none⟩ (.slice va6 (cl ++ m).length vc6)) (.slice va6 (cl ++ m).length vc6) (cl ++ m)) := hr6.kept (grownBy_one w6 w1.heap.size 0 _) (fun j e => by injection e with e; omega)
        have HC6 : Hid ((cl ++ m).map TxA.core = (mergedX ((pre ++ [x]).map Subtype.val)).map TxA.core) := by
          show _ = _
          rw [HSN.out, List.map_append, List.map_append, HCORE.out, hcm5]
        refine hK _ _ ?_
        clear hK K hr6 hg6 hm5 hcm5 hb5 CO HSN HCORE HROW hlow hnT
        generalize cl ++ m = cm at *
        refine wpAnyIn_ready (rs := [4]) (by kernel_rfl) (by simp) ?_
        refine AllReadyIn.cons rfl (fun K hK => ?_) AllReadyIn.nil
        (go_simp; refine hK _ _ ?_; clear hK K)
        refine wpAnyIn_done (by kernel_rfl) ?_ _
        gi_wp2
        exact ⟨hk6.trans (KeepsOthers.setCell _ _ _), ⟨hB6.setCell (p := ⟨w1.heap.size, 0, none⟩) hws _, by rw [World.cell?_setCell_far _ _ _ _ (by simp), hbx6, hbx]⟩, ⟨_, World.cell?_setCell_same' _ _ _ (by rw [hc6]; rfl), by rw [World.frozen?_setCell]; exact hf6, by rw [World.cell?_setCell_far _ _ _ _ (by simp)]; exact hbx6, cm, HR6.out, HC6.out⟩, grow_set (HB.out.trans hB6) (show w.heap.size ≤ w1.heap.size from hws) _⟩
  case done =>
    rintro D ys W hD hys ⟨⟨v, cl, hc, hf, hbx, hrow, hcore⟩, hB⟩ hK
    rw [hys] at hcore
    obtain ⟨va, vc, rfl, _⟩ := hrow.txs
    have HROW : Hid (TxRow (w1.heap.size + 2) W (.slice va cl.length vc) cl) := hrow
    have HCORE : Hid (cl.map TxA.core = (mergedX (evs ss)).map TxA.core) := hcore
    clear hrow hcore hys
    gi_wp2
    refine ⟨by simp, .inl ⟨_, _, rfl, run_takeDeferred hK, ?_⟩⟩
    refine ⟨.tuple #[.slice va cl.length vc, .int .i64 0], by simp [results, Try.results32, go_sem], _, cl, rfl, ?_, HCORE.out, hB.trans (belowK_b (w := w) (Nat.le_refl _) W D _ _ (by have := hB0.size; omega) hK rfl rfl)⟩
    exact (HROW.out.own (grownBy_putObj' _ D (.deferred none)) (fun r e => by cases e; exact ⟨_, hK, rfl⟩)).low (by omega)
  case stop =>
    rintro D c pre W _ _ h _
    exact h.elim
end Go.Proofs.Ytfogphljilgogaa
