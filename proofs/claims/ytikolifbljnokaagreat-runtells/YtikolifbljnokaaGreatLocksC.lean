/-
  locks.queuesOf: the queue of each key, in an array.
  Conditions: the transactions can be read and are right; there is a truth for each.
-/
import Derived.Test.YtikolifbljnokaaGreatLocksX
import Derived.WalkKit
import Derived.WalkSpells
import Derived.WalkLawsBesides
import Derived.ProofKit
import Derived.Deep.RegionHeld
import Derived.Deep.RegionHeld3
import Derived.BigQuiet
import Derived.Deep.RegionLaw
import Derived.Deep.DeepCutAuto
import Derived.Maps.AppendAt
import Derived.Deep.AppendLies
namespace Go.Proofs.YtikolifbljnokaaGreat
open Go.RowKit

set_option maxRecDepth 100000 in
theorem Tryz.info109 : (Tryz.prog.info? 109).map (fun i => (i.zero, i.size, i.bytes)) = some (some (.agg #[.int .i64 0, .bool false]), 2, 16) := by kernel_rfl
theorem news_ws (w : World) (x : Int) (y : Bool) (s : Nat) (hs : s = w.heap.size) : ∀ j u, [Value.int .i64 x, Value.bool y][j]? = some u → (w.alloc (.cells #[.int .i64 x, .bool y] 109)).cell? ((⟨s, 0, none⟩ : Addr).add j) = some u := by
  subst hs
  intro j u hj
  match j, hj with
  | 0, hj => simp at hj; subst hj; simp [Addr.add]
  | 1, hj => simp at hj; subst hj; simp [Addr.add]

/-- An append of one that waits to a queue that the call owns, at a step of a region that draws its order. -/
theorem step_append_ws {w : World} {ops : Array Oper} {o : Oper} {a : Act} {K : Act → World → Prop} {Q : Exit → Act → World → Prop} {E : Prop} (hgd : o.guard = none) (s x : Operand)
    (ho : o.op = .call { callee := .builtin .append, args := #[s, x], argTypes := #[93, 93] })
    (C : Nat) (v : Value) (L : List (Int × Bool)) (z : Int) (t : Bool) (hs : a.eval s = v) (hown : w.ownsRow C 109 2 v L.length (cellsL L))
    (ad : Addr) (c : Nat) (hx : a.eval x = .slice (some ad) 1 c) (hnews : ∀ j u, [Value.int .i64 z, Value.bool t][j]? = some u → w.cell? (ad.add j) = some u)
    (hsm : L.length ≤ 100) (hbase : C ≤ w.heap.size)
    (h : ∀ v' w', w'.ownsRow C 109 2 v' (L.length + 1) (cellsL (L ++ [(z, t)])) → w.grownBy w' v.ownBlock → (v'.ownBlock = v.ownBlock ∨ v'.ownBlock = some w.heap.size) → K (a.put o.dst v') w') :
    if Region.wanted o (yielded ops a.tmps) = true then Oper.wp Tryz.prog o a w K Q else E := by
  obtain ⟨i, hi, hz, hsz, hby⟩ := info_parts Tryz.info109
  have hw : Region.wanted o (yielded ops a.tmps) = true := by simp [Region.wanted, hgd]
  rw [if_pos hw]
  obtain ⟨v', w', hrun, h2, h3, _, h5⟩ := run_append_own_at (P := Tryz.prog) w C 93 o.type 109 i _ 2 16 Tryz.underlying93 hi hz hsz hby rfl (by decide) v L.length (cellsL L) hown ad 1 c [.int .i64 z, .bool t] rfl hnews (one_lk z t) (by unfold maxLen; omega) (by omega) hbase
  unfold Oper.wp execOp
  simp only [ho, resolve, invoke, builtin, Sem.run_bind, Sem.run_pure, Result.andThen_ok, List.map_toArray, List.map_cons, List.map_nil, hs, hx, hrun]
  refine h v' w' ?_ h3 h5
  rw [cellsL_append]
  exact h2

/-- Eight queues in an array at block X, their rows from block C on, no two in one block. -/
structure QS (C X : Nat) (w : World) (vs : Nat → Value) (Q : Nat → List (Nat × Bool)) : Prop where
  c : ∀ k, k < 8 → w.cell? ⟨X, k, none⟩ = some (vs k)
  f : ∀ k, w.frozen? ⟨X, k, none⟩ = false
  o : ∀ k, k < 8 → w.ownsRow C 109 2 (vs k) (qI (Q k)).length (cellsL (qI (Q k)))
  d : ∀ j k, j < 8 → k < 8 → j ≠ k → ∀ b, (vs j).ownBlock = some b → (vs k).ownBlock ≠ some b
theorem QS.congr {C X : Nat} {w : World} {vs : Nat → Value} {Q Q' : Nat → List (Nat × Bool)} (h : QS C X w vs Q) (e : ∀ k, k < 8 → Q k = Q' k) : QS C X w vs Q' :=
  ⟨h.c, h.f, fun k hk => by rw [← e k hk]; exact h.o k hk, h.d⟩
theorem QS.below {C X : Nat} {w w' : World} {vs : Nat → Value} {Q : Nat → List (Nat × Bool)} (h : QS C X w vs Q) (hb : Below w.heap.size w w') : QS C X w' vs Q :=
  ⟨fun k hk => ext_cell hb (h.c k hk), fun k => (hb.frozen (p := ⟨X, k, none⟩) (World.block_lt_of_cell? w ⟨X, 0, none⟩ (h.c 0 (by omega)))).trans (h.f k), fun k hk => owns_below (h.o k hk) hb, h.d⟩
theorem own_kept {w w' : World} {C : Nat} {e : TypeId} {size : Nat} {v : Value} {n : Nat} {xs : List Value} {row : Option Nat} (h : w.ownsRow C e size v n xs) (hg : w.grownBy w' row) (hr : ∀ b, v.ownBlock = some b → row ≠ some b) : w'.ownsRow C e size v n xs := by
  refine h.kept hg ?_
  cases ho : v.ownBlock with
  | none => exact .inl rfl
  | some j => exact .inr (fun q => hr j ho q.symm)
theorem QS.step {C X : Nat} {w w1 : World} {vs : Nat → Value} {Q : Nat → List (Nat × Bool)} (h : QS C X w vs Q) (hXC : X < C) (κ : Nat) (hκ : κ < 8) (n : Nat) (t : Bool) (v' : Value)
    (ho : w1.ownsRow C 109 2 v' ((qI (Q κ)).length + 1) (cellsL (qI (Q κ) ++ [((n : Int), t)]))) (hg : w.grownBy w1 (vs κ).ownBlock) (hv : v'.ownBlock = (vs κ).ownBlock ∨ v'.ownBlock = some w.heap.size) :
    QS C X (w1.setCell ⟨X, κ, none⟩ v') (fun k => if k = κ then v' else vs k) (fun k => if k = κ then Q κ ++ [(n, t)] else Q k) := by
  have hlow : ∀ k, k < 8 → ∀ b, (vs k).ownBlock = some b → C ≤ b ∧ b < w.heap.size := fun k hk b hb => (h.o k hk).lt b hb
  have hXl : X < w.heap.size := World.block_lt_of_cell? w ⟨X, 0, none⟩ (h.c 0 (by omega))
  have hXr : some X ≠ (vs κ).ownBlock := fun e => by have := (hlow κ hκ X e.symm).1; omega
  have hc1 : ∀ k, k < 8 → w1.cell? ⟨X, k, none⟩ = some (vs k) := fun k hk => hg.cell (h.c k hk) hXr
  have hf1 : ∀ k, w1.frozen? ⟨X, k, none⟩ = false := fun k => (World.frozen?_of_block (hg.block X hXl hXr)).trans (h.f k)
  refine ⟨fun k hk => ?_, fun k => ?_, fun k hk => ?_, fun j k hj hk hjk b hb => ?_⟩
  · by_cases e : k = κ
    · subst e
      simp [go_sem, hc1 k hk]
    · simp only [if_neg e]
      simp [go_sem, hc1 k hk]
  · simp [go_sem, hf1 k]
  · by_cases e : k = κ
    · subst e
      simp only [if_pos]
      have e2 : qI (Q k ++ [(n, t)]) = qI (Q k) ++ [((n : Int), t)] := by simp [qI]
      rw [e2, List.length_append]
      exact own_kept ho (grown_one w1 X k v') (fun b hb q => by have := (ho.lt b hb).1; injection q with q; omega)
    · simp only [if_neg e]
      refine own_kept (own_kept (h.o k hk) hg (fun b hb q => ?_)) (grown_one w1 X κ v') (fun b hb q => ?_)
      · exact h.d k κ hk hκ e b hb q
      · have := (hlow k hk b hb).1
        injection q with q
        omega
  · by_cases ej : j = κ
    · have ek : ¬ k = κ := fun q => hjk (ej.trans q.symm)
      simp only [if_pos ej, if_neg ek] at hb ⊢
      rcases hv with hv | hv
      · rw [hv] at hb
        exact h.d κ k hκ hk (fun q => ek q.symm) b hb
      · rw [hv] at hb
        injection hb with hb
        intro q
        have := (hlow k hk b q).2
        omega
    · by_cases ek : k = κ
      · simp only [if_neg ej, if_pos ek] at hb ⊢
        rcases hv with hv | hv
        · rw [hv]
          exact h.d j κ hj hκ ej b hb
        · rw [hv]
          intro q
          injection q with q
          have := (hlow j hj b hb).2
          omega
      · simp only [if_neg ej, if_neg ek] at hb ⊢
        exact h.d j k hj hk hjk b hb

/-- What a transaction's locks lay into a key's queue. -/
def addQ (M : List (Int × Bool)) (n k : Nat) : List (Nat × Bool) := (M.filter fun p => p.1 == (k : Int)).map fun p => (n, p.2)
theorem addQ_app (M M' : List (Int × Bool)) (n k : Nat) : addQ (M ++ M') n k = addQ M n k ++ addQ M' n k := by simp [addQ]
theorem addQ_one (z : Int) (t : Bool) (n k : Nat) : addQ [(z, t)] n k = if z = (k : Int) then [(n, t)] else [] := by
  unfold addQ
  by_cases h : z = (k : Int)
  · rw [if_pos h]; simp [h]
  · rw [if_neg h]; simp [h]
theorem addQ_step (M : List (Int × Bool)) (n k j : Nat) (h : j < M.length) : addQ (M.take (j + 1)) n k = addQ (M.take j) n k ++ (if (M.getD j (0, false)).1 = (k : Int) then [(n, (M.getD j (0, false)).2)] else []) := by
  have e : M.getD j (0, false) = M[j] := by simp [List.getD, h]
  rw [List.take_succ_eq_append_getElem h, addQ_app, e]
  exact congrArg _ (addQ_one M[j].1 M[j].2 n k)
theorem addQ_lk (rs ks : List Int) (n k : Nat) : ∀ m, addQ (lkTo rs ks m) n k = if k < m ∧ ((k : Int) ∈ ks ∨ (k : Int) ∈ rs) then [(n, decide ((k : Int) ∈ ks))] else []
  | 0 => by simp [lkTo, addQ]
  | m + 1 => by
    rw [lkTo, addQ_app, addQ_lk rs ks n k m]
    by_cases e : k = m
    · subst e
      rw [if_neg (by omega), List.nil_append]
      by_cases c : (k : Int) ∈ ks ∨ (k : Int) ∈ rs
      · rw [if_pos c, if_pos ⟨by omega, c⟩, addQ_one, if_pos rfl]
      · rw [if_neg c, if_neg (fun h => c h.2)]; rfl
    · have h2 : addQ (if (m : Int) ∈ ks ∨ (m : Int) ∈ rs then [((m : Int), decide ((m : Int) ∈ ks))] else []) n k = [] := by
        split
        · rw [addQ_one, if_neg (by omega)]
        · rfl
      rw [h2, List.append_nil]
      by_cases c : k < m ∧ ((k : Int) ∈ ks ∨ (k : Int) ∈ rs)
      · rw [if_pos c, if_pos ⟨by omega, c.2⟩]
      · rw [if_neg c, if_neg (fun h => c ⟨by omega, h.2⟩)]
theorem addQ_all (l : List TxA) (done : List Bool) (n k : Nat) (hk : k < 8) (hd : dn done n = false) : addQ (lkTo (gX l n).rs (keysOf (gX l n).ss) 8) n k = qAdd l done k n := by
  rw [addQ_lk]
  unfold qAdd
  rw [hd]
  by_cases c : (k : Int) ∈ keysOf (gX l n).ss ∨ (k : Int) ∈ (gX l n).rs
  · rw [if_pos ⟨hk, c⟩, if_pos (by simpa using (hasX_iff (gX l n) k).2 c)]
    rfl
  · rw [if_neg (fun h => c h.2), if_neg (by simpa using fun h => c ((hasX_iff (gX l n) k).1 h))]
theorem qAdd_done (l : List TxA) (done : List Bool) (n k : Nat) (hd : dn done n = true) : qAdd l done k n = [] := by
  unfold qAdd
  rw [hd]
  rfl

/-- The queues, and the array that is answered, as yet empty. -/
structure QA (B : Nat) (w : World) (vs : Nat → Value) (Q : Nat → List (Nat × Bool)) : Prop where
  q : QS (B + 2) (B + 1) w vs Q
  z : ∀ k, k < 8 → w.cell? ⟨B, k, none⟩ = some (.slice none 0 0)
  zf : ∀ k, w.frozen? ⟨B, k, none⟩ = false
theorem QA.sz {B : Nat} {w : World} {vs : Nat → Value} {Q : Nat → List (Nat × Bool)} (h : QA B w vs Q) : B + 2 ≤ w.heap.size := by
  have := World.block_lt_of_cell? w ⟨B + 1, 0, none⟩ (h.q.c 0 (by omega))
  simp only at this
  omega
theorem QA.below {B : Nat} {w w' : World} {vs : Nat → Value} {Q : Nat → List (Nat × Bool)} (h : QA B w vs Q) (hb : Below w.heap.size w w') : QA B w' vs Q :=
  ⟨h.q.below hb, fun k hk => ext_cell hb (h.z k hk), fun k => (hb.frozen (p := ⟨B, k, none⟩) (World.block_lt_of_cell? w ⟨B, 0, none⟩ (h.z 0 (by omega)))).trans (h.zf k)⟩
theorem QA.congr {B : Nat} {w : World} {vs : Nat → Value} {Q Q' : Nat → List (Nat × Bool)} (h : QA B w vs Q) (e : ∀ k, k < 8 → Q k = Q' k) : QA B w vs Q' := ⟨h.q.congr e, h.z, h.zf⟩
theorem QA.step {B : Nat} {w w1 : World} {vs : Nat → Value} {Q : Nat → List (Nat × Bool)} (h : QA B w vs Q) (κ : Nat) (hκ : κ < 8) (n : Nat) (t : Bool) (v' : Value)
    (ho : w1.ownsRow (B + 2) 109 2 v' ((qI (Q κ)).length + 1) (cellsL (qI (Q κ) ++ [((n : Int), t)]))) (hg : w.grownBy w1 (vs κ).ownBlock) (hv : v'.ownBlock = (vs κ).ownBlock ∨ v'.ownBlock = some w.heap.size) :
    QA B (w1.setCell ⟨B + 1, κ, none⟩ v') (fun k => if k = κ then v' else vs k) (fun k => if k = κ then Q κ ++ [(n, t)] else Q k) := by
  have hr : some B ≠ (vs κ).ownBlock := fun e => by have := ((h.q.o κ hκ).lt B e.symm).1; omega
  have hBl : B < w.heap.size := World.block_lt_of_cell? w ⟨B, 0, none⟩ (h.z 0 (by omega))
  refine ⟨h.q.step (by omega) κ hκ n t v' ho hg hv, fun k hk => ?_, fun k => ?_⟩
  · rw [World.cell?_setCell_far _ _ _ _ (by simp)]
    exact hg.cell (h.z k hk) hr
  · have h1 : w1.frozen? ⟨B, k, none⟩ = false := (World.frozen?_of_block (hg.block B hBl hr)).trans (h.zf k)
    simp [go_sem, h1]

theorem lksW_of_owns {w : World} {base : Nat} {v : Value} {n : Nat} {l : List (Int × Bool)} (h : w.ownsRow base 109 2 v n (cellsL l)) (hn : l.length = n) : ∃ p : Option Addr × Nat, v = .slice p.1 l.length p.2 ∧ IsLks w p.1 l ∧ l.length ≤ p.2 := by
  rcases h.2 with ⟨rfl, h0⟩ | ⟨g, cap, cur, rfl, hb, hg, hnc, hcm, hcs, htake⟩
  · refine ⟨(none, 0), by rw [hn, h0], fun i hi => ?_, by omega⟩
    omega
  · refine ⟨(some ⟨g, 0, none⟩, cap), by rw [hn], fun i hi => ⟨g, 0, rfl, (Array.getElem?_eq_some_iff.1 hg).1, ?_, ?_⟩, by omega⟩
    · rw [Nat.zero_add, h.cellAt (i * 2) (by omega)]
      exact (cellsL_get l i hi).1
    · rw [Nat.zero_add, h.cellAt (i * 2 + 1) (by omega)]
      exact (cellsL_get l i hi).2

variable (la : Option Addr) (lc : Nat) (l : List TxA) (ba : Option Addr) (bc : Nat) (done : List Bool)

set_option maxRecDepth 100000 in
set_option maxHeartbeats 4000000 in
theorem queuesOf_own (w : World) (hl : IsTxs w la l) (hb : IsBools w ba done) (hE : chkL l = 0) (hd : done.length = l.length) :
    Calls Tryz.prog 59 #[.slice la l.length lc, .slice ba l.length bc] w fun e w' => ∃ vs : Nat → Value, e = .returned (.agg #[vs 0, vs 1, vs 2, vs 3, vs 4, vs 5, vs 6, vs 7]) ∧ (∀ k, k < 8 → w'.ownsRow (w.heap.size + 2) 109 2 (vs k) (qI (queueK l done k l.length)).length (cellsL (qI (queueK l done k l.length)))) ∧ Below w.heap.size w w' := by
  have hl8 := chkL_small hE
  have HL : Hid (IsTxs w la l) := hl
  have HB : Hid (IsBools w ba done) := hb
  have HE : Hid (chkL l = 0) := hE
  have HD : Hid (done.length = l.length) := hd
  clear hl hb hE hd
  have U : Hid (QA w.heap.size ((w.alloc (.cells #[.slice none 0 0, .slice none 0 0, .slice none 0 0, .slice none 0 0, .slice none 0 0, .slice none 0 0, .slice none 0 0, .slice none 0 0] 94)).alloc (.cells #[.slice none 0 0, .slice none 0 0, .slice none 0 0, .slice none 0 0, .slice none 0 0, .slice none 0 0, .slice none 0 0, .slice none 0 0] 94)) (fun _ => .slice none 0 0) (fun k => queueK l done k 0)) := by
    refine ⟨⟨fun k hk => ?_, fun k => by simp, fun k hk => World.ownsRow_nil _ _ _ _, fun j k _ _ _ b hb => by simp [Value.ownBlock] at hb⟩, fun k hk => ?_, fun k => ?_⟩
    · match k, hk with
      | 0, _ => simp
      | 1, _ => simp
      | 2, _ => simp
      | 3, _ => simp
      | 4, _ => simp
      | 5, _ => simp
      | 6, _ => simp
      | 7, _ => simp
    · rw [World.cell?_alloc_lt _ _ _ (by simp)]
      match k, hk with
      | 0, _ => simp
      | 1, _ => simp
      | 2, _ => simp
      | 3, _ => simp
      | 4, _ => simp
      | 5, _ => simp
      | 6, _ => simp
      | 7, _ => simp
    · simp
  have B0 : Hid (Below w.heap.size w ((w.alloc (.cells #[.slice none 0 0, .slice none 0 0, .slice none 0 0, .slice none 0 0, .slice none 0 0, .slice none 0 0, .slice none 0 0, .slice none 0 0] 94)).alloc (.cells #[.slice none 0 0, .slice none 0 0, .slice none 0 0, .slice none 0 0, .slice none 0 0, .slice none 0 0, .slice none 0 0, .slice none 0 0] 94))) := grow_alloc (grow_alloc (Below.refl _ _) _) _
  go_enter Tryz.func59, Tryz.ntmps59
  go_wp2
  generalize ((w.alloc (.cells #[.slice none 0 0, .slice none 0 0, .slice none 0 0, .slice none 0 0, .slice none 0 0, .slice none 0 0, .slice none 0 0, .slice none 0 0] 94)).alloc (.cells #[.slice none 0 0, .slice none 0 0, .slice none 0 0, .slice none 0 0, .slice none 0 0, .slice none 0 0, .slice none 0 0, .slice none 0 0] 94)) = V at *
  go_loopw [6, 7, 9, 12] (fun _ _ _ i wr => ∃ (n : Nat) (vs : Nat → Value), n ≤ l.length ∧ i = .int .i64 n ∧ Hid (QA w.heap.size wr vs (fun k => queueK l done k n)) ∧ Hid (Below w.heap.size w wr)) (fun _ _ _ i _ => l.length - (intOf i).toNat)
  case atStart => exact ⟨0, _, Nat.zero_le _, rfl, U, B0⟩
  case round =>
    clear U B0
    obtain ⟨n, vs, hn, rfl, hQ, hB⟩ := hrel
    by_cases hlt : n < l.length
    · obtain ⟨b, off, rfl, _, e0, e1, e2, hx⟩ := HL.out n hlt
      obtain ⟨b2, off2, rfl, _, e3⟩ := HB.out n (by rw [HD.out]; exact hlt)
      have d0 := ext_cell hB.out e0
      have d1 := ext_cell hB.out e1
      have d2 := ext_cell hB.out e2
      have d3 := ext_cell hB.out e3
      have HX : Hid (IsX wr (l.getD n x0)) := hx.below hB.out
      have CX : Hid (chkX (l.getD n x0) = 0) := chkL_at0 HE.out n hlt
      have HA : Hid (dn done n = false → ∀ k, k < 8 → addQ (lkTo (l.getD n x0).rs (keysOf (l.getD n x0).ss) 8) n k = qAdd l done k n) := fun h k hk => addQ_all l done n k hk h
      have HG : Hid (dn done n = true → ∀ k, qAdd l done k n = []) := fun h k => qAdd_done l done n k h
      have HS : Hid (∀ k, queueK l done k (n + 1) = queueK l done k n ++ qAdd l done k n) := fun k => rfl
      have HN : Hid (∀ k, (queueK l done k n).length ≤ n) := fun k => queueK_len l done k n
      have CL : Hid (∀ w', Below wr.heap.size wr w' → Calls Tryz.prog 74 #[.agg #[.slice (l.getD n x0).ra (l.getD n x0).rs.length (l.getD n x0).rc, .slice (l.getD n x0).ga (l.getD n x0).gs.length (l.getD n x0).gc, .slice (l.getD n x0).sa (l.getD n x0).ss.length (l.getD n x0).sc]] w' fun e w'' => ∃ a c, e = .returned (.slice a (lkTo (l.getD n x0).rs (keysOf (l.getD n x0).ss) 8).length c) ∧ IsLks w'' a (lkTo (l.getD n x0).rs (keysOf (l.getD n x0).ss) 8) ∧ (∀ ad, a = some ad → w'.heap.size ≤ ad.block) ∧ Below w'.heap.size w' w'') := fun w' h => lkLocksOf_at _ w' (HX.out.below h) CX.out
      have LL : Hid (∀ p ∈ lkTo (l.getD n x0).rs (keysOf (l.getD n x0).ss) 8, 0 ≤ p.1 ∧ p.1 < 8) := fun p hp => by
        obtain ⟨k, hk, _, rfl⟩ := (lkX_mem (l.getD n x0) p).1 hp
        simp
        omega
      have LN : Hid ((lkTo (l.getD n x0).rs (keysOf (l.getD n x0).ss) 8).length ≤ 8) := lkTo_len _ _ 8
      clear e0 e1 e2 e3 hx HX CX
      generalize hL : lkTo (l.getD n x0).rs (keysOf (l.getD n x0).ss) 8 = L at *
      clear hL
      generalize l.getD n x0 = x at *
      obtain ⟨ra, ga, sa, rc, gc, sc, rs, gs, ss⟩ := x
      simp only at d0 d1 d2 CL
      have d3' : wr.cell? ⟨b2, off2 + n, none⟩ = some (.bool (dn done n)) := d3
      clear d3
      have j1 : (0 : Int) ≤ (n : Int) := by omega
      have j2 : (n : Int) < (l.length : Int) := by omega
      go_upto_region 5 with fail
      have BA : Below wr.heap.size wr (wr.alloc (.cells #[.slice ra rs.length rc, .slice ga gs.length gc, .slice sa ss.length sc] 38)) := grow_alloc (Below.refl _ _) _
      have d3 := ext_cell BA d3'
      have y0 : (wr.alloc (.cells #[.slice ra rs.length rc, .slice ga gs.length gc, .slice sa ss.length sc] 38)).cell? ⟨wr.heap.size, 0, none⟩ = some (.slice ra rs.length rc) := by simp
      have y1 : (wr.alloc (.cells #[.slice ra rs.length rc, .slice ga gs.length gc, .slice sa ss.length sc] 38)).cell? ⟨wr.heap.size, 1, none⟩ = some (.slice ga gs.length gc) := by simp
      have y2 : (wr.alloc (.cells #[.slice ra rs.length rc, .slice ga gs.length gc, .slice sa ss.length sc] 38)).cell? ⟨wr.heap.size, 2, none⟩ = some (.slice sa ss.length sc) := by simp
      have hQa : Hid (QA w.heap.size (wr.alloc (.cells #[.slice ra rs.length rc, .slice ga gs.length gc, .slice sa ss.length sc] 38)) vs (fun k => queueK l done k n)) := hQ.out.below BA
      have hBa : Hid (Below w.heap.size w (wr.alloc (.cells #[.slice ra rs.length rc, .slice ga gs.length gc, .slice sa ss.length sc] 38))) := grow_trans hB.out BA
      have CLa : Hid (Calls Tryz.prog 74 #[.agg #[.slice ra rs.length rc, .slice ga gs.length gc, .slice sa ss.length sc]] (wr.alloc (.cells #[.slice ra rs.length rc, .slice ga gs.length gc, .slice sa ss.length sc] 38)) fun e w'' => ∃ a c, e = .returned (.slice a L.length c) ∧ IsLks w'' a L ∧ (∀ ad, a = some ad → (wr.alloc (.cells #[.slice ra rs.length rc, .slice ga gs.length gc, .slice sa ss.length sc] 38)).heap.size ≤ ad.block) ∧ Below (wr.alloc (.cells #[.slice ra rs.length rc, .slice ga gs.length gc, .slice sa ss.length sc] 38)).heap.size (wr.alloc (.cells #[.slice ra rs.length rc, .slice ga gs.length gc, .slice sa ss.length sc] 38)) w'') := CL.out _ BA
      clear BA d0 d1 d2 d3' hQ hB CL
      generalize wr.alloc (.cells #[.slice ra rs.length rc, .slice ga gs.length gc, .slice sa ss.length sc] 38) = V1 at *
      generalize wr.heap.size = Y at *
      generalize dn done n = dd at *
      cases dd with
      | true =>
        have hQ' : Hid (QA w.heap.size V1 vs (fun k => queueK l done k (n + 1))) := hQa.out.congr (fun k _ => by rw [HS.out k, HG.out rfl k, List.append_nil])
        clear hQa HA HG HS CLa
        go_wp2
        go_roundw
        case rel => exact ⟨n + 1, vs, by omega, by go_num, hQ', hBa⟩
        case measure => simp [intOf]; omega
      | false =>
        have HA' : Hid (∀ k, k < 8 → addQ L n k = qAdd l done k n) := HA.out rfl
        clear HA HG
        go_wp2_with fail
        refine CLa.out.mono ?_
        clear CLa
        rintro e w1 ⟨ka, kc, rfl, hK, hlow, hb1⟩
        have HK : Hid (IsLks w1 ka L) := hK
        have KL : Hid (∀ ad, ka = some ad → w.heap.size + 2 ≤ ad.block) := fun ad e => Nat.le_trans hQa.out.sz (hlow ad e)
        have KR : Hid (∀ k, k < 8 → ∀ ad, ka = some ad → (vs k).ownBlock ≠ some ad.block) := fun k hk ad e q => by
          have h1 := ((hQa.out.q.o k hk).lt _ q).2
          have h2 := hlow ad e
          omega
        clear hlow
        have hQ1 : Hid (QA w.heap.size w1 vs (fun k => queueK l done k n ++ addQ (L.take 0) n k)) := (hQa.out.below hb1).congr (fun k _ => by simp [addQ])
        have hB1 : Hid (Below w.heap.size w w1) := grow_trans hBa.out hb1
        clear hQa hBa hb1 hK y0 y1 y2 d3
        go_wp2
        go_loopw [9, 24] (fun _ i wq => ∃ (j : Nat) (us : Nat → Value), j ≤ L.length ∧ i = .int .i64 j ∧ Hid (QA w.heap.size wq us (fun k => queueK l done k n ++ addQ (L.take j) n k)) ∧ Hid (IsLks wq ka L) ∧ Hid (∀ k, k < 8 → ∀ ad, ka = some ad → (us k).ownBlock ≠ some ad.block) ∧ Hid (Below w.heap.size w wq)) (fun _ i _ => L.length - (intOf i).toNat)
        case atStart => exact ⟨0, vs, Nat.zero_le _, rfl, hQ1, HK, KR, hB1⟩
        case round =>
          clear hQ1 HK hB1 KR
          obtain ⟨j, us, hj, rfl, hQ, hK, hR, hB⟩ := hrel
          by_cases hlt2 : j < L.length
          · obtain ⟨bk, ok, rfl, _, k0, k1⟩ := hK.out j hlt2
            obtain ⟨z0, z8⟩ := LL.out (L.getD j (0, false)) (by simp [List.getD, hlt2])
            have HT : Hid (∀ k : Nat, addQ (L.take (j + 1)) n k = addQ (L.take j) n k ++ (if (L.getD j (0, false)).1 = (k : Int) then [(n, (L.getD j (0, false)).2)] else [])) := fun k => addQ_step L n k j hlt2
            have hLn := LN.out
            generalize L.getD j (0, false) = pr at *
            obtain ⟨z, t⟩ := pr
            simp only at k0 k1 z0 z8
            obtain ⟨κ, rfl⟩ := Int.eq_ofNat_of_zero_le z0
            have hκ : κ < 8 := by omega
            have i1 : (0 : Int) ≤ (j : Int) := by omega
            have i2 : (j : Int) < (L.length : Int) := by omega
            have i3 : (0 : Int) ≤ (κ : Int) := by omega
            have i4 : (κ : Int) < 8 := by omega
            go_upto_region 9 with fail
            have BA : Below wr.heap.size wr (wr.alloc (.cells #[.int .i64 κ, .bool t] 107)) := grow_alloc (Below.refl _ _) _
            have y0 : (wr.alloc (.cells #[.int .i64 κ, .bool t] 107)).cell? ⟨wr.heap.size, 0, none⟩ = some (.int .i64 κ) := by simp
            have y1 : (wr.alloc (.cells #[.int .i64 κ, .bool t] 107)).cell? ⟨wr.heap.size, 1, none⟩ = some (.bool t) := by simp
            have hQa : Hid (QA w.heap.size (wr.alloc (.cells #[.int .i64 κ, .bool t] 107)) us (fun k => queueK l done k n ++ addQ (L.take j) n k)) := hQ.out.below BA
            have hBa : Hid (Below w.heap.size w (wr.alloc (.cells #[.int .i64 κ, .bool t] 107))) := grow_trans hB.out BA
            have hKa : Hid (IsLks (wr.alloc (.cells #[.int .i64 κ, .bool t] 107)) (some ⟨bk, ok, none⟩) L) := hK.out.below BA
            have hYr : Hid (some wr.heap.size ≠ (us κ).ownBlock) := fun e => by
              have h := ((hQ.out.q.o κ hκ).lt _ e.symm).2
              omega
            clear BA hQ hB hK k0 k1
            generalize wr.alloc (.cells #[.int .i64 κ, .bool t] 107) = V2 at *
            generalize wr.heap.size = Y2 at *
            have c5 := hQa.out.q.c κ hκ
            have f5 := hQa.out.q.f κ
            have hown : Hid (V2.ownsRow (w.heap.size + 2) 109 2 (us κ) (qI (queueK l done κ n ++ addQ (L.take j) n κ)).length (cellsL (qI (queueK l done κ n ++ addQ (L.take j) n κ)))) := hQa.out.q.o κ hκ
            have hbase : Hid (w.heap.size + 2 ≤ V2.heap.size) := hQa.out.sz
            have hsm : Hid ((qI (queueK l done κ n ++ addQ (L.take j) n κ)).length ≤ 100) := by
              show _ ≤ _
              rw [qI_len, List.length_append]
              have h1 := HN.out κ
              have h2 : (addQ (L.take j) n κ).length ≤ L.length := by
                unfold addQ
                rw [List.length_map]
                refine Nat.le_trans (List.length_filter_le _ _) ?_
                rw [List.length_take]
                omega
              omega
            have hXr : Hid (some (w.heap.size + 1) ≠ (us κ).ownBlock) := fun e => by
              have h := (hown.out.lt _ e.symm).1
              omega
            have hXl : Hid (w.heap.size + 1 < V2.heap.size) := by
              have h := hbase.out
              show _ < _
              omega
            have hrow : Hid (∀ j, (us κ).ownBlock = some j → w.heap.size + 2 ≤ j) := fun j e => (hown.out.lt j e).1
            have FIN : Hid (∀ g' cap' w3, w3.ownsRow (w.heap.size + 2) 109 2 (.slice (some ⟨g', 0, none⟩) ((qI (queueK l done κ n ++ addQ (L.take j) n κ)).length + 1) cap') ((qI (queueK l done κ n ++ addQ (L.take j) n κ)).length + 1) (cellsL ((qI (queueK l done κ n ++ addQ (L.take j) n κ)) ++ [((n : Int), t)])) → (V2.alloc (.cells #[.int .i64 n, .bool t] 109)).grownBy w3 (us κ).ownBlock → ((Value.slice (some ⟨g', 0, none⟩) ((qI (queueK l done κ n ++ addQ (L.take j) n κ)).length + 1) cap').ownBlock = (us κ).ownBlock ∨ (Value.slice (some ⟨g', 0, none⟩) ((qI (queueK l done κ n ++ addQ (L.take j) n κ)).length + 1) cap').ownBlock = some (V2.alloc (.cells #[.int .i64 n, .bool t] 109)).heap.size) → ∃ us' : Nat → Value, Hid (QA w.heap.size (w3.setCell ⟨w.heap.size + 1, κ, none⟩ (.slice (some ⟨g', 0, none⟩) ((qI (queueK l done κ n ++ addQ (L.take j) n κ)).length + 1) cap')) us' (fun k => queueK l done k n ++ addQ (L.take (j + 1)) n k)) ∧ Hid (IsLks (w3.setCell ⟨w.heap.size + 1, κ, none⟩ (.slice (some ⟨g', 0, none⟩) ((qI (queueK l done κ n ++ addQ (L.take j) n κ)).length + 1) cap')) (some ⟨bk, ok, none⟩) L) ∧ Hid (∀ k, k < 8 → ∀ ad, some (⟨bk, ok, none⟩ : Addr) = some ad → (us' k).ownBlock ≠ some ad.block) ∧ Hid (Below w.heap.size w (w3.setCell ⟨w.heap.size + 1, κ, none⟩ (.slice (some ⟨g', 0, none⟩) ((qI (queueK l done κ n ++ addQ (L.take j) n κ)).length + 1) cap')))) := fun g' cap' w3 ho3 hg3 hv3 => by
              have gA : Below V2.heap.size V2 (V2.alloc (.cells #[.int .i64 n, .bool t] 109)) := grow_alloc (Below.refl _ _) _
              refine ⟨fun k => if k = κ then (Value.slice (some ⟨g', 0, none⟩) ((qI (queueK l done κ n ++ addQ (L.take j) n κ)).length + 1) cap') else us k, ?_, ?_, fun k hk ad e => ?_, ?_⟩
              · have h := (hQa.out.below gA).step κ hκ n t _ ho3 hg3 hv3
                refine h.congr (fun k hk => ?_)
                rw [HT.out k]
                by_cases e : k = κ
                · subst e
                  simp
                · have e' : ¬ (κ : Int) = (k : Int) := by omega
                  simp [e, e']
              · exact ((hKa.out.below gA).keptBy hg3 (fun ad e => hR.out κ hκ ad e)).keptBy (grown_one w3 (w.heap.size + 1) κ _) (fun ad e q => by
                  have h1 := KL.out ad e
                  injection q with q
                  omega)
              · by_cases ek : k = κ
                · simp only [if_pos ek]
                  rcases hv3 with hv | hv
                  · rw [hv]
                    exact hR.out κ hκ ad e
                  · rw [hv]
                    intro q
                    injection q with q
                    injection e with e
                    subst e
                    obtain ⟨bb, oo, hbb, hlt3, _⟩ := hKa.out j hlt2
                    injection hbb with hbb
                    injection hbb with r1 r2 _
                    have h1 := gA.size
                    have q2 : (V2.alloc (.cells #[.int .i64 n, .bool t] 109)).heap.size = bk := q
                    omega
                · simp only [if_neg ek]
                  exact hR.out k hk ad e
              · have h1 : Below w.heap.size w (V2.alloc (.cells #[.int .i64 n, .bool t] 109)) := grow_trans hBa.out gA
                have h2 : Below w.heap.size w w3 := h1.grown hg3 h1.size (fun j e => by have := hrow.out j e; omega)
                exact grow_set h2 (by simp) _
            have c5a : (V2.alloc (.cells #[.int .i64 n, .bool t] 109)).cell? ⟨w.heap.size + 1, κ, none⟩ = some (us κ) := ext_cell (grow_alloc (Below.refl _ _) _) c5
            have y0a : (V2.alloc (.cells #[.int .i64 n, .bool t] 109)).cell? ⟨Y2, 0, none⟩ = some (.int .i64 κ) := ext_cell (grow_alloc (Below.refl _ _) _) y0
            have y1a : (V2.alloc (.cells #[.int .i64 n, .bool t] 109)).cell? ⟨Y2, 1, none⟩ = some (.bool t) := ext_cell (grow_alloc (Below.refl _ _) _) y1
            go_region_law (first
              | (refine step_append_ws (by rfl) _ _ (by rfl) (w.heap.size + 2) (us κ) (qI (queueK l done κ n ++ addQ (L.take j) n κ)) (n : Int) t (by rfl) (owns_below hown.out (grow_drew (grow_alloc (Below.refl _ _) _))) ⟨V2.heap.size, 0, none⟩ 1 (by rfl) (news_ws V2 n t _ rfl) hsm.out (Nat.le_trans hbase.out ((grow_drew (grow_alloc (Below.refl _ _) _))).size) ?_; intro v' w3 ho3 hg3 hv3; obtain ⟨g', cap', rfl, _, _⟩ := ho3.form (by simp); have oc : w3.cell? ⟨w.heap.size + 1, κ, none⟩ = some (us κ) := hg3.cell (ext_cell (grow_drew (grow_alloc (Below.refl _ _) _)) c5) hXr.out; have yc0 : w3.cell? ⟨Y2, 0, none⟩ = some (.int .i64 κ) := hg3.cell y0a hYr.out; have of3 : w3.frozen? ⟨w.heap.size + 1, κ, none⟩ = false := (World.frozen?_of_block (hg3.block (w.heap.size + 1) (Nat.lt_of_lt_of_le hXl.out ((grow_drew (grow_alloc (Below.refl _ _) _))).size) hXr.out)).trans ((Below.frozen (grow_drew (grow_alloc (Below.refl _ _) _)) (p := ⟨w.heap.size + 1, κ, none⟩) hXl.out).trans f5))
              | (refine step_append_ws (by rfl) _ _ (by rfl) (w.heap.size + 2) (us κ) (qI (queueK l done κ n ++ addQ (L.take j) n κ)) (n : Int) t (by rfl) (owns_below hown.out (grow_alloc (grow_drew (Below.refl _ _)) _)) ⟨V2.heap.size, 0, none⟩ 1 (by rfl) (news_ws V2.drew n t _ rfl) hsm.out (Nat.le_trans hbase.out ((grow_alloc (grow_drew (Below.refl _ _)) _)).size) ?_; intro v' w3 ho3 hg3 hv3; obtain ⟨g', cap', rfl, _, _⟩ := ho3.form (by simp); have oc : w3.cell? ⟨w.heap.size + 1, κ, none⟩ = some (us κ) := hg3.cell (ext_cell (grow_alloc (grow_drew (Below.refl _ _)) _) c5) hXr.out; have yc0 : w3.cell? ⟨Y2, 0, none⟩ = some (.int .i64 κ) := hg3.cell y0a hYr.out; have of3 : w3.frozen? ⟨w.heap.size + 1, κ, none⟩ = false := (World.frozen?_of_block (hg3.block (w.heap.size + 1) (Nat.lt_of_lt_of_le hXl.out ((grow_alloc (grow_drew (Below.refl _ _)) _)).size) hXr.out)).trans ((Below.frozen (grow_alloc (grow_drew (Below.refl _ _)) _) (p := ⟨w.heap.size + 1, κ, none⟩) hXl.out).trans f5))
              | (refine step_append_ws (by rfl) _ _ (by rfl) (w.heap.size + 2) (us κ) (qI (queueK l done κ n ++ addQ (L.take j) n κ)) (n : Int) t (by rfl) (owns_below hown.out (grow_alloc (Below.refl _ _) _)) ⟨V2.heap.size, 0, none⟩ 1 (by rfl) (news_ws V2 n t _ rfl) hsm.out (Nat.le_trans hbase.out ((grow_alloc (Below.refl _ _) _)).size) ?_; intro v' w3 ho3 hg3 hv3; obtain ⟨g', cap', rfl, _, _⟩ := ho3.form (by simp); have oc : w3.cell? ⟨w.heap.size + 1, κ, none⟩ = some (us κ) := hg3.cell (ext_cell (grow_alloc (Below.refl _ _) _) c5) hXr.out; have yc0 : w3.cell? ⟨Y2, 0, none⟩ = some (.int .i64 κ) := hg3.cell y0a hYr.out; have of3 : w3.frozen? ⟨w.heap.size + 1, κ, none⟩ = false := (World.frozen?_of_block (hg3.block (w.heap.size + 1) (Nat.lt_of_lt_of_le hXl.out ((grow_alloc (Below.refl _ _) _)).size) hXr.out)).trans ((Below.frozen (grow_alloc (Below.refl _ _) _) (p := ⟨w.heap.size + 1, κ, none⟩) hXl.out).trans f5)))
            all_goals (
              obtain ⟨us', RQ, RK, RR, RB⟩ := FIN.out g' cap' w3 ho3 ⟨hg3.os, hg3.tape, hg3.output, hg3.size, hg3.block⟩ hv3
              clear FIN hQa hBa hKa hR hown hbase hsm hXr hXl hYr hrow ho3 hg3 hv3 oc of3 yc0 c5 f5 c5a y0a y1a y0 y1 HT
              generalize (w3.setCell ⟨w.heap.size + 1, κ, none⟩ (.slice (some ⟨g', 0, none⟩) ((qI (queueK l done κ n ++ addQ (L.take j) n κ)).length + 1) cap')) = WF at *
              go_wp2
              go_roundw
              case rel => exact ⟨j + 1, us', by omega, by go_num, RQ, RK, RR, RB⟩
              case measure => simp [intOf]; omega)
          · have hjj : j = L.length := by omega
            have hQ' : Hid (QA w.heap.size wr us (fun k => queueK l done k (n + 1))) := hQ.out.congr (fun k hk => by
              rw [HS.out k, ← HA'.out k hk, hjj, List.take_of_length_le (Nat.le_refl _)])
            clear hQ hK
            go_wp2
            go_roundw
            case rel => exact ⟨n + 1, us, by omega, by go_num, hQ', hB⟩
            case measure => simp [intOf]; omega
    · have hnn : n = l.length := by omega
      have HO : Hid (∀ k, k < 8 → wr.ownsRow (w.heap.size + 2) 109 2 (vs k) (qI (queueK l done k l.length)).length (cellsL (qI (queueK l done k l.length)))) := fun k hk => by
        have h := hQ.out.q.o k hk
        rw [hnn] at h
        exact h
      have c0 := hQ.out.q.c 0 (by omega)
      have z0 := hQ.out.z 0 (by omega)
      have f0 := hQ.out.zf 0
      have c1 := hQ.out.q.c 1 (by omega)
      have z1 := hQ.out.z 1 (by omega)
      have f1 := hQ.out.zf 1
      have c2 := hQ.out.q.c 2 (by omega)
      have z2 := hQ.out.z 2 (by omega)
      have f2 := hQ.out.zf 2
      have c3 := hQ.out.q.c 3 (by omega)
      have z3 := hQ.out.z 3 (by omega)
      have f3 := hQ.out.zf 3
      have c4 := hQ.out.q.c 4 (by omega)
      have z4 := hQ.out.z 4 (by omega)
      have f4 := hQ.out.zf 4
      have c5 := hQ.out.q.c 5 (by omega)
      have z5 := hQ.out.z 5 (by omega)
      have f5 := hQ.out.zf 5
      have c6 := hQ.out.q.c 6 (by omega)
      have z6 := hQ.out.z 6 (by omega)
      have f6 := hQ.out.zf 6
      have c7 := hQ.out.q.c 7 (by omega)
      have z7 := hQ.out.z 7 (by omega)
      have f7 := hQ.out.zf 7
      obtain ⟨⟨a0, b0⟩, e0, _, _⟩ := lksW_of_owns (HO.out 0 (by omega)) rfl
      rw [e0] at c0
      obtain ⟨⟨a1, b1⟩, e1, _, _⟩ := lksW_of_owns (HO.out 1 (by omega)) rfl
      rw [e1] at c1
      obtain ⟨⟨a2, b2⟩, e2, _, _⟩ := lksW_of_owns (HO.out 2 (by omega)) rfl
      rw [e2] at c2
      obtain ⟨⟨a3, b3⟩, e3, _, _⟩ := lksW_of_owns (HO.out 3 (by omega)) rfl
      rw [e3] at c3
      obtain ⟨⟨a4, b4⟩, e4, _, _⟩ := lksW_of_owns (HO.out 4 (by omega)) rfl
      rw [e4] at c4
      obtain ⟨⟨a5, b5⟩, e5, _, _⟩ := lksW_of_owns (HO.out 5 (by omega)) rfl
      rw [e5] at c5
      obtain ⟨⟨a6, b6⟩, e6, _, _⟩ := lksW_of_owns (HO.out 6 (by omega)) rfl
      rw [e6] at c6
      obtain ⟨⟨a7, b7⟩, e7, _, _⟩ := lksW_of_owns (HO.out 7 (by omega)) rfl
      rw [e7] at c7
      have RO : Hid (∀ k, k < 8 → ((((((((wr.setCell ⟨w.heap.size, 0, none⟩ (.slice a0 (qI (queueK l done 0 l.length)).length b0)).setCell ⟨w.heap.size, 1, none⟩ (.slice a1 (qI (queueK l done 1 l.length)).length b1)).setCell ⟨w.heap.size, 2, none⟩ (.slice a2 (qI (queueK l done 2 l.length)).length b2)).setCell ⟨w.heap.size, 3, none⟩ (.slice a3 (qI (queueK l done 3 l.length)).length b3)).setCell ⟨w.heap.size, 4, none⟩ (.slice a4 (qI (queueK l done 4 l.length)).length b4)).setCell ⟨w.heap.size, 5, none⟩ (.slice a5 (qI (queueK l done 5 l.length)).length b5)).setCell ⟨w.heap.size, 6, none⟩ (.slice a6 (qI (queueK l done 6 l.length)).length b6)).setCell ⟨w.heap.size, 7, none⟩ (.slice a7 (qI (queueK l done 7 l.length)).length b7)).ownsRow (w.heap.size + 2) 109 2 (vs k) (qI (queueK l done k l.length)).length (cellsL (qI (queueK l done k l.length)))) := fun k hk => own_kept (own_kept (own_kept (own_kept (own_kept (own_kept (own_kept (own_kept (HO.out k hk) (grown_one _ w.heap.size 0 _) (fun b hb q => by have := ((HO.out k hk).lt b hb).1; injection q with q; omega)) (grown_one _ w.heap.size 1 _) (fun b hb q => by have := ((HO.out k hk).lt b hb).1; injection q with q; omega)) (grown_one _ w.heap.size 2 _) (fun b hb q => by have := ((HO.out k hk).lt b hb).1; injection q with q; omega)) (grown_one _ w.heap.size 3 _) (fun b hb q => by have := ((HO.out k hk).lt b hb).1; injection q with q; omega)) (grown_one _ w.heap.size 4 _) (fun b hb q => by have := ((HO.out k hk).lt b hb).1; injection q with q; omega)) (grown_one _ w.heap.size 5 _) (fun b hb q => by have := ((HO.out k hk).lt b hb).1; injection q with q; omega)) (grown_one _ w.heap.size 6 _) (fun b hb q => by have := ((HO.out k hk).lt b hb).1; injection q with q; omega)) (grown_one _ w.heap.size 7 _) (fun b hb q => by have := ((HO.out k hk).lt b hb).1; injection q with q; omega)
      have RB : Hid (Below w.heap.size w ((((((((wr.setCell ⟨w.heap.size, 0, none⟩ (.slice a0 (qI (queueK l done 0 l.length)).length b0)).setCell ⟨w.heap.size, 1, none⟩ (.slice a1 (qI (queueK l done 1 l.length)).length b1)).setCell ⟨w.heap.size, 2, none⟩ (.slice a2 (qI (queueK l done 2 l.length)).length b2)).setCell ⟨w.heap.size, 3, none⟩ (.slice a3 (qI (queueK l done 3 l.length)).length b3)).setCell ⟨w.heap.size, 4, none⟩ (.slice a4 (qI (queueK l done 4 l.length)).length b4)).setCell ⟨w.heap.size, 5, none⟩ (.slice a5 (qI (queueK l done 5 l.length)).length b5)).setCell ⟨w.heap.size, 6, none⟩ (.slice a6 (qI (queueK l done 6 l.length)).length b6)).setCell ⟨w.heap.size, 7, none⟩ (.slice a7 (qI (queueK l done 7 l.length)).length b7))) := grow_set (grow_set (grow_set (grow_set (grow_set (grow_set (grow_set (grow_set (hB.out) (p := ⟨w.heap.size, 0, none⟩) (Nat.le_refl _) (.slice a0 (qI (queueK l done 0 l.length)).length b0)) (p := ⟨w.heap.size, 1, none⟩) (Nat.le_refl _) (.slice a1 (qI (queueK l done 1 l.length)).length b1)) (p := ⟨w.heap.size, 2, none⟩) (Nat.le_refl _) (.slice a2 (qI (queueK l done 2 l.length)).length b2)) (p := ⟨w.heap.size, 3, none⟩) (Nat.le_refl _) (.slice a3 (qI (queueK l done 3 l.length)).length b3)) (p := ⟨w.heap.size, 4, none⟩) (Nat.le_refl _) (.slice a4 (qI (queueK l done 4 l.length)).length b4)) (p := ⟨w.heap.size, 5, none⟩) (Nat.le_refl _) (.slice a5 (qI (queueK l done 5 l.length)).length b5)) (p := ⟨w.heap.size, 6, none⟩) (Nat.le_refl _) (.slice a6 (qI (queueK l done 6 l.length)).length b6)) (p := ⟨w.heap.size, 7, none⟩) (Nat.le_refl _) (.slice a7 (qI (queueK l done 7 l.length)).length b7)
      clear hQ hB HO
      generalize hq0 : (qI (queueK l done 0 l.length)).length = n0 at *
      generalize hq1 : (qI (queueK l done 1 l.length)).length = n1 at *
      generalize hq2 : (qI (queueK l done 2 l.length)).length = n2 at *
      generalize hq3 : (qI (queueK l done 3 l.length)).length = n3 at *
      generalize hq4 : (qI (queueK l done 4 l.length)).length = n4 at *
      generalize hq5 : (qI (queueK l done 5 l.length)).length = n5 at *
      generalize hq6 : (qI (queueK l done 6 l.length)).length = n6 at *
      generalize hq7 : (qI (queueK l done 7 l.length)).length = n7 at *
      go_wp2
      have r0 : ((((((((wr.setCell ⟨w.heap.size, 0, none⟩ (.slice a0 n0 b0)).setCell ⟨w.heap.size, 1, none⟩ (.slice a1 n1 b1)).setCell ⟨w.heap.size, 2, none⟩ (.slice a2 n2 b2)).setCell ⟨w.heap.size, 3, none⟩ (.slice a3 n3 b3)).setCell ⟨w.heap.size, 4, none⟩ (.slice a4 n4 b4)).setCell ⟨w.heap.size, 5, none⟩ (.slice a5 n5 b5)).setCell ⟨w.heap.size, 6, none⟩ (.slice a6 n6 b6)).setCell ⟨w.heap.size, 7, none⟩ (.slice a7 n7 b7)).cell? ⟨w.heap.size, 0, none⟩ = some (.slice a0 n0 b0) := by simp [go_sem, z0]
      have r1 : ((((((((wr.setCell ⟨w.heap.size, 0, none⟩ (.slice a0 n0 b0)).setCell ⟨w.heap.size, 1, none⟩ (.slice a1 n1 b1)).setCell ⟨w.heap.size, 2, none⟩ (.slice a2 n2 b2)).setCell ⟨w.heap.size, 3, none⟩ (.slice a3 n3 b3)).setCell ⟨w.heap.size, 4, none⟩ (.slice a4 n4 b4)).setCell ⟨w.heap.size, 5, none⟩ (.slice a5 n5 b5)).setCell ⟨w.heap.size, 6, none⟩ (.slice a6 n6 b6)).setCell ⟨w.heap.size, 7, none⟩ (.slice a7 n7 b7)).cell? ⟨w.heap.size, 1, none⟩ = some (.slice a1 n1 b1) := by simp [go_sem, z1]
      have r2 : ((((((((wr.setCell ⟨w.heap.size, 0, none⟩ (.slice a0 n0 b0)).setCell ⟨w.heap.size, 1, none⟩ (.slice a1 n1 b1)).setCell ⟨w.heap.size, 2, none⟩ (.slice a2 n2 b2)).setCell ⟨w.heap.size, 3, none⟩ (.slice a3 n3 b3)).setCell ⟨w.heap.size, 4, none⟩ (.slice a4 n4 b4)).setCell ⟨w.heap.size, 5, none⟩ (.slice a5 n5 b5)).setCell ⟨w.heap.size, 6, none⟩ (.slice a6 n6 b6)).setCell ⟨w.heap.size, 7, none⟩ (.slice a7 n7 b7)).cell? ⟨w.heap.size, 2, none⟩ = some (.slice a2 n2 b2) := by simp [go_sem, z2]
      have r3 : ((((((((wr.setCell ⟨w.heap.size, 0, none⟩ (.slice a0 n0 b0)).setCell ⟨w.heap.size, 1, none⟩ (.slice a1 n1 b1)).setCell ⟨w.heap.size, 2, none⟩ (.slice a2 n2 b2)).setCell ⟨w.heap.size, 3, none⟩ (.slice a3 n3 b3)).setCell ⟨w.heap.size, 4, none⟩ (.slice a4 n4 b4)).setCell ⟨w.heap.size, 5, none⟩ (.slice a5 n5 b5)).setCell ⟨w.heap.size, 6, none⟩ (.slice a6 n6 b6)).setCell ⟨w.heap.size, 7, none⟩ (.slice a7 n7 b7)).cell? ⟨w.heap.size, 3, none⟩ = some (.slice a3 n3 b3) := by simp [go_sem, z3]
      have r4 : ((((((((wr.setCell ⟨w.heap.size, 0, none⟩ (.slice a0 n0 b0)).setCell ⟨w.heap.size, 1, none⟩ (.slice a1 n1 b1)).setCell ⟨w.heap.size, 2, none⟩ (.slice a2 n2 b2)).setCell ⟨w.heap.size, 3, none⟩ (.slice a3 n3 b3)).setCell ⟨w.heap.size, 4, none⟩ (.slice a4 n4 b4)).setCell ⟨w.heap.size, 5, none⟩ (.slice a5 n5 b5)).setCell ⟨w.heap.size, 6, none⟩ (.slice a6 n6 b6)).setCell ⟨w.heap.size, 7, none⟩ (.slice a7 n7 b7)).cell? ⟨w.heap.size, 4, none⟩ = some (.slice a4 n4 b4) := by simp [go_sem, z4]
      have r5 : ((((((((wr.setCell ⟨w.heap.size, 0, none⟩ (.slice a0 n0 b0)).setCell ⟨w.heap.size, 1, none⟩ (.slice a1 n1 b1)).setCell ⟨w.heap.size, 2, none⟩ (.slice a2 n2 b2)).setCell ⟨w.heap.size, 3, none⟩ (.slice a3 n3 b3)).setCell ⟨w.heap.size, 4, none⟩ (.slice a4 n4 b4)).setCell ⟨w.heap.size, 5, none⟩ (.slice a5 n5 b5)).setCell ⟨w.heap.size, 6, none⟩ (.slice a6 n6 b6)).setCell ⟨w.heap.size, 7, none⟩ (.slice a7 n7 b7)).cell? ⟨w.heap.size, 5, none⟩ = some (.slice a5 n5 b5) := by simp [go_sem, z5]
      have r6 : ((((((((wr.setCell ⟨w.heap.size, 0, none⟩ (.slice a0 n0 b0)).setCell ⟨w.heap.size, 1, none⟩ (.slice a1 n1 b1)).setCell ⟨w.heap.size, 2, none⟩ (.slice a2 n2 b2)).setCell ⟨w.heap.size, 3, none⟩ (.slice a3 n3 b3)).setCell ⟨w.heap.size, 4, none⟩ (.slice a4 n4 b4)).setCell ⟨w.heap.size, 5, none⟩ (.slice a5 n5 b5)).setCell ⟨w.heap.size, 6, none⟩ (.slice a6 n6 b6)).setCell ⟨w.heap.size, 7, none⟩ (.slice a7 n7 b7)).cell? ⟨w.heap.size, 6, none⟩ = some (.slice a6 n6 b6) := by simp [go_sem, z6]
      have r7 : ((((((((wr.setCell ⟨w.heap.size, 0, none⟩ (.slice a0 n0 b0)).setCell ⟨w.heap.size, 1, none⟩ (.slice a1 n1 b1)).setCell ⟨w.heap.size, 2, none⟩ (.slice a2 n2 b2)).setCell ⟨w.heap.size, 3, none⟩ (.slice a3 n3 b3)).setCell ⟨w.heap.size, 4, none⟩ (.slice a4 n4 b4)).setCell ⟨w.heap.size, 5, none⟩ (.slice a5 n5 b5)).setCell ⟨w.heap.size, 6, none⟩ (.slice a6 n6 b6)).setCell ⟨w.heap.size, 7, none⟩ (.slice a7 n7 b7)).cell? ⟨w.heap.size, 7, none⟩ = some (.slice a7 n7 b7) := by simp [go_sem, z7]
      refine bodyPost_ret (v := .agg #[.slice a0 n0 b0, .slice a1 n1 b1, .slice a2 n2 b2, .slice a3 n3 b3, .slice a4 n4 b4, .slice a5 n5 b5, .slice a6 n6 b6, .slice a7 n7 b7]) (by simp [results, Tryz.results59, go_sem, r0, r1, r2, r3, r4, r5, r6, r7]) rfl ⟨vs, ?_, RO.out, RB.out⟩
      rw [e0, e1, e2, e3, e4, e5, e6, e7]
end Go.Proofs.YtikolifbljnokaaGreat
