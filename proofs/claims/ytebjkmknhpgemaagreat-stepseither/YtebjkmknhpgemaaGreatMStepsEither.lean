/-
  of two steps that can be done, wherever picks have led to, which one is done first does not matter: each can still be done, and the same state comes (StepsEither).
  Conditions: none beyond the form's own (the arguments can be read).
-/
import Derived.Test.YtebjkmknhpgemaaGreatMRun
import Derived.Test.YtebjkmknhpgemaaGreatMPlace
import Derived.WalkKit
import Derived.WalkSpells
import Derived.WalkLawsBesides
import Derived.ProofKit
import Derived.OpenShut
import Derived.ChangeOld
import Derived.Deep.Slices
import Derived.Deep.Strs
import Derived.Deep.RegionHeld
import Derived.Deep.RegionHeld3
import Derived.BigQuiet
import Derived.Lib.SmallJoins
import Derived.Defers
import Derived.Recover
import Derived.Deep.RegionLaw
import Derived.Deep.DeepCutAuto
import Derived.Deep.QuietTactic
import Derived.Maps.AppendAt
import Derived.Lib.SliceRun
import Derived.Deep.AppendLies
import Derived.Test.YtebjkmknhpgemaaGreatMHall
import Derived.Test.YtebjkmknhpgemaaGreatTxnA
namespace Go.Proofs.YtebjkmknhpgemaaGreat

/-- One that can be done is done. -/
theorem can_do0 {m : Int} {l : List TxA} {S : SA} (h : stE m l S = 0) {x : Nat × Nat × Nat} (hx : x ∈ canE m l S) : doE m l S x.1 x.2.1 x.2.2 = 0 := by
  have e1 : doE m l S x.1 x.2.1 x.2.2 = stepE m.toNat l S x.1 x.2.1 x.2.2 := if_pos h
  have e2 : canE m l S = canL m.toNat l S := if_pos h
  rw [e2] at hx
  rw [e1]
  have := can_any m.toNat l S x.1 x.2.1 x.2.2
  have ha : (canL m.toNat l S).any (fun y => (y.1 : Int) == x.1 && (y.2.1 : Int) == x.2.1 && (y.2.2 : Int) == x.2.2) = true := List.any_eq_true.2 ⟨x, hx, by simp⟩
  rw [ha] at this
  exact of_decide_eq_true this.symm
theorem do_is {m : Int} {l : List TxA} {S : SA} {x : Nat × Nat × Nat} (h : doE m l S x.1 x.2.1 x.2.2 = 0) : doS m l S x.1 x.2.1 x.2.2 = doX m.toNat l S x.1 x.2.1 x.2.2 := by
  unfold doS
  rw [if_pos h]
  simp
theorem can_after {m : Int} {l : List TxA} {S : SA} (h : stE m l S = 0) {x y : Nat × Nat × Nat} (hx : x ∈ canE m l S) (hy : y ∈ canE m l S) (hne : x ≠ y) : doE m l (doS m l S x.1 x.2.1 x.2.2) y.1 y.2.1 y.2.2 = 0 := by
  have h1 := do_st h (can_do0 h hx)
  refine can_do0 h1 ?_
  have e2 : canE m l S = canL m.toNat l S := if_pos h
  have e3 : canE m l (doS m l S x.1 x.2.1 x.2.2) = canL m.toNat l (doS m l S x.1 x.2.1 x.2.2) := if_pos h1
  rw [e3, do_is (can_do0 h hx)]
  rw [e2] at hx hy
  obtain ⟨a1, a2, a3, a4⟩ := canL_mem.1 hx
  obtain ⟨b1, b2, b3, b4⟩ := canL_mem.1 hy
  obtain ⟨sh, rfl, _, _, _, _, hf, _⟩ := stE_zero h
  refine canL_mem.2 ⟨b1, b2, b3, still (formB_iff.1 hf) a1 b1 a2 a3 b4 fun e => hne ?_⟩
  exact Prod.ext e.1 (Prod.ext e.2.1 e.2.2)
theorem can_comm {m : Int} {l : List TxA} {S : SA} {s : List Int} (h : stE m l S = 0) (I : Inv m.toNat l s S) {x y : Nat × Nat × Nat} (hx : x ∈ canE m l S) (hy : y ∈ canE m l S) (hne : x ≠ y) : doS m l (doS m l S x.1 x.2.1 x.2.2) y.1 y.2.1 y.2.2 = doS m l (doS m l S y.1 y.2.1 y.2.2) x.1 x.2.1 x.2.2 := by
  rw [do_is (can_after h hx hy hne), do_is (can_after h hy hx hne.symm), do_is (can_do0 h hx), do_is (can_do0 h hy)]
  have e2 : canE m l S = canL m.toNat l S := if_pos h
  rw [e2] at hx hy
  obtain ⟨a1, a2, a3, a4⟩ := canL_mem.1 hx
  obtain ⟨b1, b2, b3, b4⟩ := canL_mem.1 hy
  obtain ⟨sh, rfl, h0, _, hc, _, _, _⟩ := stE_zero h
  refine comm_do (by simpa using h0) (fun n hn => good_of (chkL_in hc n hn)) I a1 b1 a2 a3 b2 b3 a4 b4 fun e => hne ?_
  exact Prod.ext e.1 (Prod.ext e.2.1 e.2.2)
theorem inv_st {m : Int} {l : List TxA} {S : SA} {s : List Int} (hp : planE m l = 0) (I : Inv m.toNat l s S) : stE m l S = 0 := by
  unfold stE
  rw [if_pos hp, formB_iff.2 I.f, truthB_iff.2 I.t]
  rfl
theorem beg_zero {m : Int} {l : List TxA} {s : List Int} (h : begE m l s = 0) : planE m l = 0 ∧ s.length = 8 := by
  unfold begE lenE at h
  by_cases h1 : planE m l = 0
  · rw [h1] at h
    refine ⟨h1, ?_⟩
    apply Classical.byContradiction
    intro h8
    simp [firstNZ, h8] at h
  · simp [firstNZ, h1] at h
theorem beg_inv {m : Int} {l : List TxA} {s : List Int} (h : begE m l s = 0) : Inv m.toNat l s (begS m l s) := by
  obtain ⟨hp, h8⟩ := beg_zero h
  have e : begS m l s = begX m.toNat l s := if_pos h
  rw [e]
  exact inv_beg _ _ _ h8 (fun n hn => good_of (chkL_in (planE_zero hp).2.2 n hn))
theorem can_inv {m : Int} {l : List TxA} {S : SA} {s : List Int} (h8 : s.length = 8) (h : stE m l S = 0) (I : Inv m.toNat l s S) {x : Nat × Nat × Nat} (hx : x ∈ canE m l S) : Inv m.toNat l s (doS m l S x.1 x.2.1 x.2.2) := by
  rw [do_is (can_do0 h hx)]
  have e2 : canE m l S = canL m.toNat l S := if_pos h
  rw [e2] at hx
  obtain ⟨a1, a2, a3, a4⟩ := canL_mem.1 hx
  obtain ⟨sh, rfl, h0, _, hc, _, _, _⟩ := stE_zero h
  exact inv_do (by simpa using h0) h8 (fun n hn => good_of (chkL_in hc n hn)) I a1 a2 a3 a4
end Go.Proofs.YtebjkmknhpgemaaGreat

namespace Go.Proofs.YtebjkmknhpgemaaGreat
open Go.ChangeShapes Go.WideShapes Go.ChangeAt Go.RowKit Go.Deep

section
variable {H : Type} {enc : TypeId × Value → H} {w : World} {base : Nat} {held : Bool}
set_option maxRecDepth 100000 in
theorem open_i {b0 : Nat} {v : Value} {d : DataW H} {p : List MemPlace} (hv : Value.okWide Tryz.prog w .any b0 3 v) (h : DataW.Trod enc Tryz.prog w base (fun _ => true) held 3 v d p) :
    ∃ n : Int, v = .int .i64 n ∧ (Lit.int .i64 n).wf = true := by
  obtain ⟨n, rfl, _, _, hw⟩ := open_int Tryz.underlying3 hv h
  exact ⟨n, rfl, hw⟩
end

set_option maxRecDepth 100000 in
theorem wf_bounds {c : Int} (h : (Lit.int .i64 c).wf = true) : -9223372036854775808 ≤ c ∧ c ≤ 9223372036854775807 := by
  simp only [Lit.wf, Bool.and_eq_true, decide_eq_true_eq] at h
  have e1 : IntKind.i64.min = -9223372036854775808 := by decide
  have e2 : IntKind.i64.max = 9223372036854775807 := by decide
  rw [e1, e2] at h
  exact h

set_option maxRecDepth 100000 in
theorem choose_any (c : Int) (n : Nat) (w : World) (hc : (Lit.int .i64 c).wf = true) (hn : 0 < n) (hn' : n ≤ 100) :
    Calls Tryz.prog 29 #[.int .i64 c, .int .i64 n] w fun e w' => ∃ k : Nat, k < n ∧ e = .returned (.int .i64 k) ∧ w' = w := by
  obtain ⟨c1, c2⟩ := wf_bounds hc
  clear hc
  by_cases h : c < 0
  · go_enter Tryz.func29, Tryz.ntmps29
    go_wp2
    go_ret
    have h1 : 0 ≤ (-(c + 1)) % (n : Int) := Int.emod_nonneg _ (by omega)
    have h2 : (-(c + 1)) % (n : Int) < n := Int.emod_lt_of_pos _ (by omega)
    refine ⟨((-(c + 1)) % (n : Int)).toNat, by omega, ?_, rfl⟩
    show Ending.returned (Value.int .i64 (-(c + 1).tmod ↑n)) = _
    rw [Int.toNat_of_nonneg h1, ← Int.neg_tmod, Int.tmod_eq_emod_of_nonneg (by omega)]
  · go_enter Tryz.func29, Tryz.ntmps29
    go_wp2
    go_ret
    have h1 : 0 ≤ c % (n : Int) := Int.emod_nonneg _ (by omega)
    have h2 : c % (n : Int) < n := Int.emod_lt_of_pos _ (by omega)
    exact ⟨(c % (n : Int)).toNat, by omega, by show Ending.returned (Value.int .i64 (c % (n : Int))) = _; rw [Int.toNat_of_nonneg h1], rfl⟩

set_option maxRecDepth 100000 in
/-- Parts of a list of transactions. -/
theorem isTxs_take {w : World} {a : Option Addr} {l : List TxA} (h : IsTxs w a l) (k : Nat) : IsTxs w a (l.take k) := fun i hi => by
  have hl : i < l.length := by rw [List.length_take] at hi; omega
  have hk : i < k := by rw [List.length_take] at hi; omega
  have e : (l.take k).getD i x0 = l.getD i x0 := by simp [List.getD, hk]
  rw [e]
  exact h i hl
set_option maxRecDepth 100000 in
theorem isTxs_drop {w : World} {b off : Nat} {l : List TxA} (h : IsTxs w (some ⟨b, off, none⟩) l) (k : Nat) : IsTxs w (some ⟨b, off + k * 3, none⟩) (l.drop k) := fun i hi => by
  have hl : k + i < l.length := by rw [List.length_drop] at hi; omega
  have e : (l.drop k).getD i x0 = l.getD (k + i) x0 := by simp [List.getD]
  rw [e]
  obtain ⟨b', off', ha, hlt, c0, c1, c2, hx⟩ := h (k + i) hl
  injection ha with ha
  injection ha with e1 e2 _
  subst e1 e2
  have q : off + (k + i) * 3 = off + k * 3 + i * 3 := by omega
  rw [q] at c0 c1 c2
  exact ⟨b, off + k * 3, rfl, hlt, c0, c1, c2, hx⟩
set_option maxRecDepth 100000 in
theorem isRes_take {w : World} {a : Option Addr} {l : List (Bool × List Int)} (h : IsRes w a l) (k : Nat) : IsRes w a (l.take k) := fun i hi => by
  have hl : i < l.length := by rw [List.length_take] at hi; omega
  have hk : i < k := by rw [List.length_take] at hi; omega
  have e : (l.take k).getD i (false, []) = l.getD i (false, []) := by simp [List.getD, hk]
  rw [e]
  exact h i hl
set_option maxRecDepth 100000 in
theorem isRes_drop {w : World} {b off : Nat} {l : List (Bool × List Int)} (h : IsRes w (some ⟨b, off, none⟩) l) (k : Nat) : IsRes w (some ⟨b, off + k * 2, none⟩) (l.drop k) := fun i hi => by
  have hl : k + i < l.length := by rw [List.length_drop] at hi; omega
  have e : (l.drop k).getD i (false, []) = l.getD (k + i) (false, []) := by simp [List.getD]
  rw [e]
  obtain ⟨b', off', va, vc, ha, hlt, c0, c1, hx⟩ := h (k + i) hl
  injection ha with ha
  injection ha with e1 e2 _
  subst e1 e2
  have q : off + (k + i) * 2 = off + k * 2 + i * 2 := by omega
  rw [q] at c0 c1
  exact ⟨b, off + k * 2, va, vc, rfl, hlt, c0, c1, hx⟩
set_option maxRecDepth 100000 in
theorem SO.form {C : Nat} {w : World} {ea xa : Option Addr} {ec xc : Nat} {E : List Int} {R : List (Bool × List Int)} (h : SO C w ea ec xa xc E R) : (xa = none ∧ xc = 0 ∧ R = []) ∨ (∃ b, xa = some ⟨b, 0, none⟩ ∧ R.length ≤ xc) := by
  obtain ⟨_, _, rl, h3, h4⟩ := h
  rcases h3.1.2 with ⟨hv, h0⟩ | ⟨g, cap, cur, hv, _, _, hnc, _⟩
  · injection hv with e1 e2 e3
    exact .inl ⟨e1, e3, List.eq_nil_of_length_eq_zero e2⟩
  · injection hv with e1 e2 e3
    exact .inr ⟨g, e1, by rw [e2, e3]; exact hnc⟩

set_option maxRecDepth 100000 in
theorem serE_part {s : List Int} {l : List TxA} (h : serE s l = 0) (m : List TxA) (hm : ∀ x ∈ m, x ∈ l) (hl : m.length ≤ l.length) (s' : List Int) (hs : s'.length = s.length) : serE s' m = 0 := by
  obtain ⟨h8, hc⟩ := serE_zero h
  rw [serE_chk (hs.trans h8)]
  have hl8 := chkL_len hc
  unfold chkL
  rw [if_neg (by omega)]
  have key : ∀ n : List TxA, (∀ x ∈ n, chkX x = 0) → firstNZ (n.map chkX) = 0 := by
    intro n
    induction n with
    | nil => intro _; rfl
    | cons y t ih =>
      intro hn
      simp only [List.map_cons, firstNZ]
      rw [if_pos (hn y (List.mem_cons_self))]
      exact ih (fun x hx => hn x (List.mem_cons_of_mem _ hx))
  refine key m (fun x hx => ?_)
  obtain ⟨k, hk, rfl⟩ := List.mem_iff_getElem.1 (hm x hx)
  have := chkL_at hc k hk
  simpa [List.getD, hk] using this

set_option maxRecDepth 100000 in
theorem serRes_at (s : List Int) (l : List TxA) (i : Nat) (h : i < l.length) : ((serRes s l).getD i (false, [])).1 = aDone (serEnd s (l.take i)) (l.getD i x0) := by
  have h1 := serRes_app (l.take i) (l.drop i) s
  rw [List.take_append_drop] at h1
  have h2 : (serRes s (l.take i)).length = i := by rw [serRes_len, List.length_take]; omega
  rw [h1]
  rw [drop_get l i x0 h]
  simp only [serRes]
  rw [List.getD_eq_getElem?_getD, List.getElem?_append_right (by omega), h2]
  simp

set_option maxRecDepth 100000 in
/-- What nobody sets stays. -/
theorem serEnd_stays : ∀ (l : List TxA) (s : List Int) (i : Nat), (∀ k, k < l.length → ((serRes s l).getD k (false, [])).1 = true → ∀ z ∈ keysOf (l.getD k x0).ss, z.toNat ≠ i) → (serEnd s l).getD i 0 = s.getD i 0
  | [], _, _, _ => rfl
  | x :: t, s, i, h => by
    rw [serEnd, serEnd_stays t (aEnd s x) i (fun k hk hd => ?_)]
    · by_cases hd : aDone s x = true
      · exact putAll_far _ _ _ _ (h 0 (by simp) (by simpa [serRes] using hd))
      · rw [aEnd_idle s x (by simpa using hd)]
    · exact h (k + 1) (by simpa using hk) (by simpa [serRes] using hd)
end Go.Proofs.YtebjkmknhpgemaaGreat

namespace Go.Proofs.YtebjkmknhpgemaaGreat
open Go.RowKit

def chK (c : Int) (n : Nat) : Nat := if c < 0 then ((-(c + 1)) % (n : Int)).toNat else (c % (n : Int)).toNat
theorem chK_lt (c : Int) {n : Nat} (h : 0 < n) : chK c n < n := by
  unfold chK
  split
  · have := Int.emod_lt_of_pos (-(c + 1)) (b := (n : Int)) (by omega)
    have := Int.emod_nonneg (-(c + 1)) (b := (n : Int)) (by omega)
    omega
  · have := Int.emod_lt_of_pos c (b := (n : Int)) (by omega)
    have := Int.emod_nonneg c (b := (n : Int)) (by omega)
    omega

set_option maxRecDepth 100000 in
theorem choose_is (c : Int) (n : Nat) (w : World) (hc : (Lit.int .i64 c).wf = true) (hn : 0 < n) (hn' : n ≤ 100) :
    Calls Tryz.prog 29 #[.int .i64 c, .int .i64 n] w fun e w' => e = .returned (.int .i64 (chK c n : Nat)) ∧ w' = w := by
  obtain ⟨c1, c2⟩ := wf_bounds hc
  clear hc
  by_cases h : c < 0
  · have h1 : 0 ≤ (-(c + 1)) % (n : Int) := Int.emod_nonneg _ (by omega)
    have e0 : chK c n = ((-(c + 1)) % (n : Int)).toNat := if_pos h
    rw [e0]
    generalize hk : ((-(c + 1)) % (n : Int)).toNat = K
    go_enter Tryz.func29, Tryz.ntmps29
    go_wp2
    go_ret
    refine ⟨?_, rfl⟩
    show Ending.returned (Value.int .i64 (-(c + 1).tmod ↑n)) = _
    rw [← hk, Int.toNat_of_nonneg h1, ← Int.neg_tmod, Int.tmod_eq_emod_of_nonneg (by omega)]
  · have h1 : 0 ≤ c % (n : Int) := Int.emod_nonneg _ (by omega)
    have e0 : chK c n = (c % (n : Int)).toNat := if_neg h
    rw [e0]
    generalize hk : (c % (n : Int)).toNat = K
    go_enter Tryz.func29, Tryz.ntmps29
    go_wp2
    go_ret
    refine ⟨?_, rfl⟩
    show Ending.returned (Value.int .i64 (c % ↑n)) = _
    rw [← hk, Int.toNat_of_nonneg h1]

/-- A state that is stored into a cell of four. -/
theorem put4 {w : World} {R : Nat} (q : Q4) {u0 u1 u2 u3 : Value} (t0 : w.cell? ⟨R, 0, none⟩ = some u0) (t1 : w.cell? ⟨R, 1, none⟩ = some u1) (t2 : w.cell? ⟨R, 2, none⟩ = some u2) (t3 : w.cell? ⟨R, 3, none⟩ = some u3) : ((((w.setCell ⟨R, 0, none⟩ (.slice q.sa q.sn q.sc)).setCell ⟨R, 1, none⟩ (.slice q.ra q.rn q.rc)).setCell ⟨R, 2, none⟩ (.slice q.wa q.wn q.tc)).setCell ⟨R, 3, none⟩ (.slice q.va q.vn q.vc)).cell? ⟨R, 0, none⟩ = some (.slice q.sa q.sn q.sc) ∧ ((((w.setCell ⟨R, 0, none⟩ (.slice q.sa q.sn q.sc)).setCell ⟨R, 1, none⟩ (.slice q.ra q.rn q.rc)).setCell ⟨R, 2, none⟩ (.slice q.wa q.wn q.tc)).setCell ⟨R, 3, none⟩ (.slice q.va q.vn q.vc)).cell? ⟨R, 1, none⟩ = some (.slice q.ra q.rn q.rc) ∧ ((((w.setCell ⟨R, 0, none⟩ (.slice q.sa q.sn q.sc)).setCell ⟨R, 1, none⟩ (.slice q.ra q.rn q.rc)).setCell ⟨R, 2, none⟩ (.slice q.wa q.wn q.tc)).setCell ⟨R, 3, none⟩ (.slice q.va q.vn q.vc)).cell? ⟨R, 2, none⟩ = some (.slice q.wa q.wn q.tc) ∧ ((((w.setCell ⟨R, 0, none⟩ (.slice q.sa q.sn q.sc)).setCell ⟨R, 1, none⟩ (.slice q.ra q.rn q.rc)).setCell ⟨R, 2, none⟩ (.slice q.wa q.wn q.tc)).setCell ⟨R, 3, none⟩ (.slice q.va q.vn q.vc)).cell? ⟨R, 3, none⟩ = some (.slice q.va q.vn q.vc) := ⟨(set_off (by decide) (set_off (by decide) (set_off (by decide) (set_here t0)))), (set_off (by decide) (set_off (by decide) (set_here (set_off (by decide) t1)))), (set_off (by decide) (set_here (set_off (by decide) (set_off (by decide) t2)))), (set_here (set_off (by decide) (set_off (by decide) (set_off (by decide) t3))))⟩

variable (la : Option Addr) (lc : Nat) (l : List TxA) (sa : Option Addr) (sc : Nat) (s : List Int) (pa : Option Addr) (pc : Nat) (pk : List Int)

set_option maxRecDepth 100000 in
set_option maxHeartbeats 4000000 in
/-- Where picks lead to. -/
theorem reached_any (m : Int) (w : World) (hl : IsTxs w la l) (hs : IsInts w sa s) (hp : IsInts w pa pk) (hw : ∀ i, i < pk.length → (Lit.int .i64 (pk.getD i 0)).wf = true) :
    Calls Tryz.prog 28 #[.agg #[.int .i64 m, .slice la l.length lc], .slice sa s.length sc, .slice pa pk.length pc] w fun e w' => ∃ (q : Q4) (b : Bool) (S' : SA), e = .returned (.tuple #[.agg #[.slice q.sa q.sn q.sc, .slice q.ra q.rn q.rc, .slice q.wa q.wn q.tc, .slice q.va q.vn q.vc], .bool b]) ∧ StaQ S' q w' ∧ Below w.heap.size w w' ∧ (b = true → begE m l s = 0 ∧ Inv m.toNat l s S') ∧ (b = false → ¬ begE m l s = 0) := by
  have hg : Below w.heap.size w ((w.alloc (.cells #[.int .i64 m, .slice la l.length lc] 24)).alloc (.cells #[.slice none 0 0, .slice none 0 0, .slice none 0 0, .slice none 0 0] 29)) := grow_alloc (grow_alloc (Below.refl _ _) _) _
  have HG : Hid (Below w.heap.size w ((w.alloc (.cells #[.int .i64 m, .slice la l.length lc] 24)).alloc (.cells #[.slice none 0 0, .slice none 0 0, .slice none 0 0, .slice none 0 0] 29))) := hg
  have p0 : ((w.alloc (.cells #[.int .i64 m, .slice la l.length lc] 24)).alloc (.cells #[.slice none 0 0, .slice none 0 0, .slice none 0 0, .slice none 0 0] 29)).cell? ⟨w.heap.size, 0, none⟩ = some (.int .i64 m) := ext_cell (grow_alloc (Below.refl _ _) _) (at_new w _ 24 _ 0 _ rfl rfl)
  have p1 : ((w.alloc (.cells #[.int .i64 m, .slice la l.length lc] 24)).alloc (.cells #[.slice none 0 0, .slice none 0 0, .slice none 0 0, .slice none 0 0] 29)).cell? ⟨w.heap.size, 1, none⟩ = some (.slice la l.length lc) := ext_cell (grow_alloc (Below.refl _ _) _) (at_new w _ 24 _ 1 _ rfl rfl)
  have r0 : ((w.alloc (.cells #[.int .i64 m, .slice la l.length lc] 24)).alloc (.cells #[.slice none 0 0, .slice none 0 0, .slice none 0 0, .slice none 0 0] 29)).cell? ⟨w.heap.size + 1, 0, none⟩ = some (.slice none 0 0) := at_new _ _ 29 _ 0 _ (by simp) rfl
  have r1 : ((w.alloc (.cells #[.int .i64 m, .slice la l.length lc] 24)).alloc (.cells #[.slice none 0 0, .slice none 0 0, .slice none 0 0, .slice none 0 0] 29)).cell? ⟨w.heap.size + 1, 1, none⟩ = some (.slice none 0 0) := at_new _ _ 29 _ 1 _ (by simp) rfl
  have r2 : ((w.alloc (.cells #[.int .i64 m, .slice la l.length lc] 24)).alloc (.cells #[.slice none 0 0, .slice none 0 0, .slice none 0 0, .slice none 0 0] 29)).cell? ⟨w.heap.size + 1, 2, none⟩ = some (.slice none 0 0) := at_new _ _ 29 _ 2 _ (by simp) rfl
  have r3 : ((w.alloc (.cells #[.int .i64 m, .slice la l.length lc] 24)).alloc (.cells #[.slice none 0 0, .slice none 0 0, .slice none 0 0, .slice none 0 0] 29)).cell? ⟨w.heap.size + 1, 3, none⟩ = some (.slice none 0 0) := at_new _ _ 29 _ 3 _ (by simp) rfl
  have rf : ∀ j, ((w.alloc (.cells #[.int .i64 m, .slice la l.length lc] 24)).alloc (.cells #[.slice none 0 0, .slice none 0 0, .slice none 0 0, .slice none 0 0] 29)).frozen? ⟨w.heap.size + 1, j, none⟩ = false := fun j => frozen_new _ _ 29 _ j (by simp)
  have sz : Hid (((w.alloc (.cells #[.int .i64 m, .slice la l.length lc] 24)).alloc (.cells #[.slice none 0 0, .slice none 0 0, .slice none 0 0, .slice none 0 0] 29)).heap.size = w.heap.size + 2) := by show _ = _; simp
  have KEEP : Hid (∀ w', Below ((w.alloc (.cells #[.int .i64 m, .slice la l.length lc] 24)).alloc (.cells #[.slice none 0 0, .slice none 0 0, .slice none 0 0, .slice none 0 0] 29)).heap.size ((w.alloc (.cells #[.int .i64 m, .slice la l.length lc] 24)).alloc (.cells #[.slice none 0 0, .slice none 0 0, .slice none 0 0, .slice none 0 0] 29)) w' → w'.cell? ⟨w.heap.size, 0, none⟩ = some (.int .i64 m) ∧ w'.cell? ⟨w.heap.size, 1, none⟩ = some (.slice la l.length lc) ∧ w'.cell? ⟨w.heap.size + 1, 0, none⟩ = some (.slice none 0 0) ∧ w'.cell? ⟨w.heap.size + 1, 1, none⟩ = some (.slice none 0 0) ∧ w'.cell? ⟨w.heap.size + 1, 2, none⟩ = some (.slice none 0 0) ∧ w'.cell? ⟨w.heap.size + 1, 3, none⟩ = some (.slice none 0 0) ∧ (∀ j, w'.frozen? ⟨w.heap.size + 1, j, none⟩ = false)) := fun w' hb => ⟨ext_cell hb p0, ext_cell hb p1, ext_cell hb r0, ext_cell hb r1, ext_cell hb r2, ext_cell hb r3, fun j => (hb.frozen (p := ⟨w.heap.size + 1, j, none⟩) (by rw [sz.out]; exact Nat.lt_succ_self _)).trans (rf j)⟩
  have CB : Hid (Calls Tryz.prog 14 #[.agg #[.int .i64 m, .slice la l.length lc], .slice sa s.length sc] ((w.alloc (.cells #[.int .i64 m, .slice la l.length lc] 24)).alloc (.cells #[.slice none 0 0, .slice none 0 0, .slice none 0 0, .slice none 0 0] 29)) fun e w' => ∃ q : Q4, e = .returned (.tuple #[.agg #[.slice q.sa q.sn q.sc, .slice q.ra q.rn q.rc, .slice q.wa q.wn q.tc, .slice q.va q.vn q.vc], .int .i64 (begE m l s)]) ∧ StaF ((w.alloc (.cells #[.int .i64 m, .slice la l.length lc] 24)).alloc (.cells #[.slice none 0 0, .slice none 0 0, .slice none 0 0, .slice none 0 0] 29)).heap.size (begS m l s) q w' ∧ Below ((w.alloc (.cells #[.int .i64 m, .slice la l.length lc] 24)).alloc (.cells #[.slice none 0 0, .slice none 0 0, .slice none 0 0, .slice none 0 0] 29)).heap.size ((w.alloc (.cells #[.int .i64 m, .slice la l.length lc] 24)).alloc (.cells #[.slice none 0 0, .slice none 0 0, .slice none 0 0, .slice none 0 0] 29)) w') := stepsBegin_any la lc l sa sc s m ((w.alloc (.cells #[.int .i64 m, .slice la l.length lc] 24)).alloc (.cells #[.slice none 0 0, .slice none 0 0, .slice none 0 0, .slice none 0 0] 29)) (hl.below hg) (hs.below hg)
  have HL : Hid (IsTxs ((w.alloc (.cells #[.int .i64 m, .slice la l.length lc] 24)).alloc (.cells #[.slice none 0 0, .slice none 0 0, .slice none 0 0, .slice none 0 0] 29)) la l) := hl.below hg
  have HP : Hid (IsInts ((w.alloc (.cells #[.int .i64 m, .slice la l.length lc] 24)).alloc (.cells #[.slice none 0 0, .slice none 0 0, .slice none 0 0, .slice none 0 0] 29)) pa pk) := hp.below hg
  have HI : Hid (begE m l s = 0 → Inv m.toNat l s (begS m l s)) := beg_inv
  have HZ : Hid (begE m l s = 0 → planE m l = 0 ∧ s.length = 8) := beg_zero
  have HWF : Hid (∀ i, i < pk.length → (Lit.int .i64 (pk.getD i 0)).wf = true) := hw
  clear hl hs hp hg hw p0 p1 r0 r1 r2 r3 rf
  obtain ⟨E, hE⟩ : ∃ E, begE m l s = E := ⟨_, rfl⟩
  obtain ⟨S0, hS⟩ : ∃ S0, begS m l s = S0 := ⟨_, rfl⟩
  simp only [hE, hS] at CB HI HZ ⊢
  clear hE hS
  go_enter Tryz.func28, Tryz.ntmps28
  go_upto_region 1 with fail
  generalize ((w.alloc (.cells #[.int .i64 m, .slice la l.length lc] 24)).alloc (.cells #[.slice none 0 0, .slice none 0 0, .slice none 0 0, .slice none 0 0] 29)) = W at *
  obtain ⟨p0, p1, r0, r1, r2, r3, rf⟩ := KEEP.out W (Below.refl _ _)
  go_wp2_with fail
  refine CB.out.mono ?_
  rintro e w1 ⟨q, rfl, hq, hb1⟩
  have gA : Below w1.heap.size w1 (w1.alloc (.cells #[.slice q.sa q.sn q.sc, .slice q.ra q.rn q.rc, .slice q.wa q.wn q.tc, .slice q.va q.vn q.vc] 29)) := grow_alloc (Below.refl _ _) _
  have hb2 : Below W.heap.size W (w1.alloc (.cells #[.slice q.sa q.sn q.sc, .slice q.ra q.rn q.rc, .slice q.wa q.wn q.tc, .slice q.va q.vn q.vc] 29)) := grow_trans hb1 gA
  have BV : Hid (Below W.heap.size W (w1.alloc (.cells #[.slice q.sa q.sn q.sc, .slice q.ra q.rn q.rc, .slice q.wa q.wn q.tc, .slice q.va q.vn q.vc] 29))) := hb2
  have HQ : Hid (StaF W.heap.size S0 q (w1.alloc (.cells #[.slice q.sa q.sn q.sc, .slice q.ra q.rn q.rc, .slice q.wa q.wn q.tc, .slice q.va q.vn q.vc] 29))) := hq.below gA
  have hbb : Hid (W.heap.size ≤ w1.heap.size) := hb1.size
  have KF : Hid (∀ j, (w1.alloc (.cells #[.slice q.sa q.sn q.sc, .slice q.ra q.rn q.rc, .slice q.wa q.wn q.tc, .slice q.va q.vn q.vc] 29)).frozen? ⟨w1.heap.size, j, none⟩ = false) := fun j => frozen_new _ _ 29 _ j rfl
  have k0 : (w1.alloc (.cells #[.slice q.sa q.sn q.sc, .slice q.ra q.rn q.rc, .slice q.wa q.wn q.tc, .slice q.va q.vn q.vc] 29)).cell? ⟨w1.heap.size, 0, none⟩ = some (.slice q.sa q.sn q.sc) := at_new _ _ 29 _ 0 _ rfl rfl
  have k1 : (w1.alloc (.cells #[.slice q.sa q.sn q.sc, .slice q.ra q.rn q.rc, .slice q.wa q.wn q.tc, .slice q.va q.vn q.vc] 29)).cell? ⟨w1.heap.size, 1, none⟩ = some (.slice q.ra q.rn q.rc) := at_new _ _ 29 _ 1 _ rfl rfl
  have k2 : (w1.alloc (.cells #[.slice q.sa q.sn q.sc, .slice q.ra q.rn q.rc, .slice q.wa q.wn q.tc, .slice q.va q.vn q.vc] 29)).cell? ⟨w1.heap.size, 2, none⟩ = some (.slice q.wa q.wn q.tc) := at_new _ _ 29 _ 2 _ rfl rfl
  have k3 : (w1.alloc (.cells #[.slice q.sa q.sn q.sc, .slice q.ra q.rn q.rc, .slice q.wa q.wn q.tc, .slice q.va q.vn q.vc] 29)).cell? ⟨w1.heap.size, 3, none⟩ = some (.slice q.va q.vn q.vc) := at_new _ _ 29 _ 3 _ rfl rfl
  clear hb1 gA hq CB p0 p1 r0 r1 r2 r3 rf hb2
  go_upto_region 2 with fail
  generalize w1.alloc (.cells #[.slice q.sa q.sn q.sc, .slice q.ra q.rn q.rc, .slice q.wa q.wn q.tc, .slice q.va q.vn q.vc] 29) = V0 at *
  generalize w1.heap.size = b1 at *
  obtain ⟨p0, p1, r0, r1, r2, r3, rf⟩ := KEEP.out V0 BV.out
  by_cases hE0 : E = 0
  rotate_left
  · have hb : (E != 0) = true := by simpa using hE0
    have BW : Hid (Below w.heap.size w V0) := grow_trans HG.out BV.out
    clear HQ KF HI HZ k0 k1 k2 k3
    obtain ⟨x0, x1, x2, x3⟩ := put4 qNil r0 r1 r2 r3
    dsimp only [qNil] at x0 x1 x2 x3
    go_wp2_with fail
    refine bodyPost_ret (v := .tuple #[.agg #[.slice none 0 0, .slice none 0 0, .slice none 0 0, .slice none 0 0], .bool false]) (by simp [results, Tryz.results28, go_sem, x0, x1, x2, x3]) rfl ⟨qNil, false, SNil, rfl, staQ_nil _, ?_, (fun h => by cases h), (fun _ => hE0)⟩
    repeat (first | exact BW.out | refine grow_set ?_ (by simp) _)
  · subst hE0
    have HI0 : Hid (Inv m.toNat l s S0) := HI.out rfl
    have hPZ : Hid (planE m l = 0) := (HZ.out rfl).1
    have h8 : Hid (s.length = 8) := (HZ.out rfl).2
    clear HI HZ p0 p1 r0 r1 r2 r3 rf
    go_wp2
    go_loopw [10] (fun i wr => ∃ (k : Nat) (q : Q4) (S : SA), i = .int .i64 k ∧ k ≤ pk.length ∧ wr.cell? ⟨b1, 0, none⟩ = some (.slice q.sa q.sn q.sc) ∧ wr.cell? ⟨b1, 1, none⟩ = some (.slice q.ra q.rn q.rc) ∧ wr.cell? ⟨b1, 2, none⟩ = some (.slice q.wa q.wn q.tc) ∧ wr.cell? ⟨b1, 3, none⟩ = some (.slice q.va q.vn q.vc) ∧ Hid (∀ j, wr.frozen? ⟨b1, j, none⟩ = false) ∧ Hid (StaF W.heap.size S q wr) ∧ Hid (Inv m.toNat l s S) ∧ Hid (Below W.heap.size W wr)) (fun i _ => pk.length - (intOf i).toNat)
    case atStart => exact ⟨0, q, S0, rfl, Nat.zero_le _, k0, k1, k2, k3, KF, HQ, HI0, BV⟩
    case round =>
      clear k0 k1 k2 k3 KF HQ HI0 BV
      obtain ⟨k, q, S, rfl, hk, k0, k1, k2, k3, KF, HQ, HI0, BV⟩ := hrel
      obtain ⟨p0, p1, r0, r1, r2, r3, rf⟩ := KEEP.out wr BV.out
      have kf := KF.out
      have BW : Hid (Below w.heap.size w wr) := grow_trans HG.out BV.out
      by_cases hend : k < pk.length ∧ k < 64
      rotate_left
      · have hc : ((k : Int) < (pk.length : Int) ∧ ¬ (k : Int) < 64) ∨ ¬ (k : Int) < (pk.length : Int) := by omega
        clear HP HL KEEP HWF
        rcases hc with ⟨i1, i2⟩ | i1
        all_goals (
          obtain ⟨x0, x1, x2, x3⟩ := put4 q r0 r1 r2 r3
          go_wp2_with fail
          refine bodyPost_ret (v := .tuple #[.agg #[.slice q.sa q.sn q.sc, .slice q.ra q.rn q.rc, .slice q.wa q.wn q.tc, .slice q.va q.vn q.vc], .bool true]) (by simp [results, Tryz.results28, go_sem, x0, x1, x2, x3]) rfl ⟨q, rfl, S, ?_, ?_, HI0.out⟩
          · have hlt : w.heap.size + 1 < W.heap.size := by rw [sz.out]; exact Nat.lt_succ_self _
            exact ((((HQ.out.set _ 0 _ hlt).set _ 1 _ hlt).set _ 2 _ hlt).set _ 3 _ hlt).sta
          · repeat (first | exact BW.out | refine grow_set ?_ (by simp) _))
      · have i1 : (k : Int) < (pk.length : Int) := by omega
        have i2 : (k : Int) < 64 := by omega
        have hst := inv_st hPZ.out HI0.out
        have CN : Hid (Calls Tryz.prog 24 #[.agg #[.int .i64 m, .slice la l.length lc], .agg #[.slice q.sa q.sn q.sc, .slice q.ra q.rn q.rc, .slice q.wa q.wn q.tc, .slice q.va q.vn q.vc]] wr fun e w' => ∃ a c, e = .returned (.tuple #[.slice a (canE m l S).length c, .int .i64 0]) ∧ IsSteps w' a (canE m l S) ∧ Below wr.heap.size wr w') := by
          have h := can_q (m := m) (c := lc) (HL.out.below BV.out) HQ.out.sta
          rw [hst] at h
          exact h
        have hL64 : Hid ((canE m l S).length ≤ 64) := by
          have e2 : canE m l S = canL m.toNat l S := if_pos hst
          obtain ⟨sh, rfl, _, h4, hc, _⟩ := stE_zero hst
          show _ ≤ _
          rw [e2]
          exact canL_len _ _ _ (chkL_len hc) (by simpa using h4)
        have HDO : Hid (∀ x ∈ canE m l S, doE m l S x.1 x.2.1 x.2.2 = 0 ∧ Inv m.toNat l s (doS m l S x.1 x.2.1 x.2.2)) := fun x hx => ⟨can_do0 hst hx, can_inv h8.out hst HI0.out hx⟩
        have CD : Hid (∀ (kd n' k' : Int) (w' : World), Below wr.heap.size wr w' → Calls Tryz.prog 26 #[.agg #[.int .i64 m, .slice la l.length lc], .agg #[.slice q.sa q.sn q.sc, .slice q.ra q.rn q.rc, .slice q.wa q.wn q.tc, .slice q.va q.vn q.vc], .agg #[.int .i64 kd, .int .i64 n', .int .i64 k']] w' fun e w'' => ∃ q' : Q4, e = .returned (.tuple #[.agg #[.slice q'.sa q'.sn q'.sc, .slice q'.ra q'.rn q'.rc, .slice q'.wa q'.wn q'.tc, .slice q'.va q'.vn q'.vc], .int .i64 (doE m l S kd n' k')]) ∧ StaF w'.heap.size (doS m l S kd n' k') q' w'' ∧ Below w'.heap.size w' w'') := fun kd n' k' w' hb => do_q kd n' k' ((HL.out.below BV.out).below hb) (HQ.out.sta.below hb)
        clear hst
        generalize canE m l S = L at *
        go_upto_region 7 with fail
        go_wp2_with fail
        refine CN.out.mono ?_
        rintro e V ⟨a, c, rfl, hst, hb2⟩
        clear CN
        have B2 : Hid (Below wr.heap.size wr V) := hb2
        have BV2 : Hid (Below W.heap.size W V) := grow_trans BV.out hb2
        have BW2 : Hid (Below w.heap.size w V) := grow_trans BW.out hb2
        have HQ2 : Hid (StaF W.heap.size S q V) := HQ.out.below hb2
        have hsb : b1 < wr.heap.size := World.block_lt_of_cell? wr ⟨b1, 0, none⟩ k0
        have KF2 : Hid (∀ j, V.frozen? ⟨b1, j, none⟩ = false) := fun j => (hb2.frozen (p := ⟨b1, j, none⟩) hsb).trans (KF.out j)
        have hsb2 : Hid (b1 < V.heap.size) := Nat.lt_of_lt_of_le hsb hb2.size
        have k0 := ext_cell hb2 k0
        have k1 := ext_cell hb2 k1
        have k2 := ext_cell hb2 k2
        have k3 := ext_cell hb2 k3
        clear p0 p1 r0 r1 r2 r3 rf kf KF BW HQ hb2 hsb
        obtain ⟨p0, p1, r0, r1, r2, r3, rf⟩ := KEEP.out V BV2.out
        by_cases hL0 : ((L.length : Int) == 0) = true
        · obtain ⟨x0, x1, x2, x3⟩ := put4 q r0 r1 r2 r3
          go_wp2_with fail
          refine bodyPost_ret (v := .tuple #[.agg #[.slice q.sa q.sn q.sc, .slice q.ra q.rn q.rc, .slice q.wa q.wn q.tc, .slice q.va q.vn q.vc], .bool true]) (by simp [results, Tryz.results28, go_sem, x0, x1, x2, x3]) rfl ⟨q, rfl, S, ?_, ?_, HI0.out⟩
          · have hlt : w.heap.size + 1 < W.heap.size := by rw [sz.out]; exact Nat.lt_succ_self _
            exact ((((HQ2.out.set _ 0 _ hlt).set _ 1 _ hlt).set _ 2 _ hlt).set _ 3 _ hlt).sta
          · repeat (first | exact BW2.out | refine grow_set ?_ (by simp) _)
        · have hL0 : ((L.length : Int) == 0) = false := by simpa using hL0
          have hLp : 0 < L.length := by
            have : ¬ (L.length : Int) = 0 := by simpa using hL0
            omega
          have hLn := hL64.out
          obtain ⟨pb, po, ep, _, d0⟩ := (HP.out.below BV2.out) k hend.1
          subst ep
          have hwf : Hid ((Lit.int .i64 (pk.getD k 0)).wf = true) := HWF.out k hend.1
          generalize pk.getD k 0 = pk0 at *
          have hci := chK_lt pk0 hLp
          obtain ⟨sb, so, es, _, c0, c1, c2⟩ := hst (chK pk0 L.length) hci
          subst es
          obtain ⟨hdo, hin⟩ := HDO.out (L.getD (chK pk0 L.length) (0, 0, 0)) (by simp [List.getD, hci])
          have CC : Hid (∀ w', Calls Tryz.prog 29 #[.int .i64 pk0, .int .i64 L.length] w' fun e w'' => e = .returned (.int .i64 (chK pk0 L.length : Nat)) ∧ w'' = w') := fun w' => choose_is pk0 L.length w' hwf.out hLp (by omega)
          have CD1 := fun w' hb => CD.out ((L.getD (chK pk0 L.length) (0, 0, 0)).1 : Nat) ((L.getD (chK pk0 L.length) (0, 0, 0)).2.1 : Nat) ((L.getD (chK pk0 L.length) (0, 0, 0)).2.2 : Nat) w' (grow_trans B2.out hb)
          rw [hdo] at CD1
          clear CD HDO hdo hst hwf HWF KEEP HP r0 r1 r2 r3 rf hL64
          generalize doS m l S ((L.getD (chK pk0 L.length) (0, 0, 0)).1 : Nat) ((L.getD (chK pk0 L.length) (0, 0, 0)).2.1 : Nat) ((L.getD (chK pk0 L.length) (0, 0, 0)).2.2 : Nat) = S5 at *
          generalize ((L.getD (chK pk0 L.length) (0, 0, 0)).1 : Nat) = x1 at *
          generalize ((L.getD (chK pk0 L.length) (0, 0, 0)).2.1 : Nat) = x2 at *
          generalize ((L.getD (chK pk0 L.length) (0, 0, 0)).2.2 : Nat) = x3 at *
          have CDD : Hid (∀ w', Below V.heap.size V w' → Calls Tryz.prog 26 #[.agg #[.int .i64 m, .slice la l.length lc], .agg #[.slice q.sa q.sn q.sc, .slice q.ra q.rn q.rc, .slice q.wa q.wn q.tc, .slice q.va q.vn q.vc], .agg #[.int .i64 (x1 : Nat), .int .i64 (x2 : Nat), .int .i64 (x3 : Nat)]] w' fun e w'' => ∃ q' : Q4, e = .returned (.tuple #[.agg #[.slice q'.sa q'.sn q'.sc, .slice q'.ra q'.rn q'.rc, .slice q'.wa q'.wn q'.tc, .slice q'.va q'.vn q'.vc], .int .i64 0]) ∧ StaF w'.heap.size S5 q' w'' ∧ Below w'.heap.size w' w'') := CD1
          clear CD1
          have HIN : Hid (Inv m.toNat l s S5) := hin
          clear hin HQ2 HI0 HG BV B2 HL
          go_upto_region 10 with fail
          have KS : Hid (∀ w', Below V.heap.size V w' → w'.cell? ⟨w.heap.size, 0, none⟩ = some (.int .i64 m) ∧ w'.cell? ⟨w.heap.size, 1, none⟩ = some (.slice la l.length lc) ∧ w'.cell? ⟨b1, 0, none⟩ = some (.slice q.sa q.sn q.sc) ∧ w'.cell? ⟨b1, 1, none⟩ = some (.slice q.ra q.rn q.rc) ∧ w'.cell? ⟨b1, 2, none⟩ = some (.slice q.wa q.wn q.tc) ∧ w'.cell? ⟨b1, 3, none⟩ = some (.slice q.va q.vn q.vc) ∧ w'.cell? ⟨pb, po + k, none⟩ = some (.int .i64 pk0) ∧ w'.cell? ⟨sb, so + chK pk0 L.length * 3, none⟩ = some (.int .i64 (x1 : Nat)) ∧ w'.cell? ⟨sb, so + chK pk0 L.length * 3 + 1, none⟩ = some (.int .i64 (x2 : Nat)) ∧ w'.cell? ⟨sb, so + chK pk0 L.length * 3 + 2, none⟩ = some (.int .i64 (x3 : Nat)) ∧ Hid (Below V.heap.size V w')) := fun w' hb => ⟨ext_cell hb p0, ext_cell hb p1, ext_cell hb k0, ext_cell hb k1, ext_cell hb k2, ext_cell hb k3, ext_cell hb d0, ext_cell hb c0, ext_cell hb c1, ext_cell hb c2, hb⟩
          go_cut [13, 14] (fun p5 e5 wx => ∃ (b5 : Nat) (q5 : Q4), p5 = .pointer (some ⟨b5, 0, none⟩) ∧ e5 = .int .i64 0 ∧ wx.cell? ⟨b5, 0, none⟩ = some (.slice q5.sa q5.sn q5.sc) ∧ wx.cell? ⟨b5, 1, none⟩ = some (.slice q5.ra q5.rn q5.rc) ∧ wx.cell? ⟨b5, 2, none⟩ = some (.slice q5.wa q5.wn q5.tc) ∧ wx.cell? ⟨b5, 3, none⟩ = some (.slice q5.va q5.vn q5.vc) ∧ Hid (StaF V.heap.size S5 q5 wx) ∧ Hid (V.heap.size ≤ b5) ∧ Hid (Below V.heap.size V wx))
          case first =>
            clear k0 k1 k2 k3 p0 p1 d0 c0 c1 c2 BV2 BW2 KF2 hsb2 HIN
            go_region_held3 (fun w' => w'.cell? ⟨w.heap.size, 0, none⟩ = some (.int .i64 m) ∧ w'.cell? ⟨w.heap.size, 1, none⟩ = some (.slice la l.length lc) ∧ w'.cell? ⟨b1, 0, none⟩ = some (.slice q.sa q.sn q.sc) ∧ w'.cell? ⟨b1, 1, none⟩ = some (.slice q.ra q.rn q.rc) ∧ w'.cell? ⟨b1, 2, none⟩ = some (.slice q.wa q.wn q.tc) ∧ w'.cell? ⟨b1, 3, none⟩ = some (.slice q.va q.vn q.vc) ∧ w'.cell? ⟨pb, po + k, none⟩ = some (.int .i64 pk0) ∧ w'.cell? ⟨sb, so + chK pk0 L.length * 3, none⟩ = some (.int .i64 (x1 : Nat)) ∧ w'.cell? ⟨sb, so + chK pk0 L.length * 3 + 1, none⟩ = some (.int .i64 (x2 : Nat)) ∧ w'.cell? ⟨sb, so + chK pk0 L.length * 3 + 2, none⟩ = some (.int .i64 (x3 : Nat)) ∧ Hid (Below V.heap.size V w')) ((refine KS.out _ ?_; go_split_ands; repeat (first | assumption | exact Below.refl _ _ | exact Hid.out (by assumption) | refine grow_drew ?_ | refine grow_alloc ?_ _ | refine grow_set ?_ (by first | exact Nat.le_refl _ | assumption) _ | refine grow_trans ?_ (by assumption))))
              (first
                | (go_at_call 29; refine (CC.out _).mono ?_; rintro e wa ⟨rfl, rfl⟩)
                | (go_at_call 26; refine (CDD.out _ ?_).mono ?_; (go_split_ands; first | exact Hid.out (by assumption) | (repeat (first | assumption | exact Below.refl _ _ | exact Hid.out (by assumption) | refine grow_drew ?_ | refine grow_alloc ?_ _ | refine grow_set ?_ (by first | exact Nat.le_refl _ | assumption) _ | refine grow_trans ?_ (by assumption)))); rintro e wb ⟨q5, rfl, h5, hbwb⟩; have hzwb : V.heap.size ≤ wb.heap.size := size_le (grow_trans (by go_split_ands; first | exact Hid.out (by assumption) | (first | exact Below.refl _ _ | exact grow_drew (Below.refl _ _) | exact grow_alloc (Below.refl _ _) _ | exact grow_alloc (grow_drew (Below.refl _ _)) _ | exact grow_drew (grow_alloc (Below.refl _ _) _)) : Below V.heap.size V _) hbwb); (first | (obtain ⟨t0, t1, t2, t3, tf, tl⟩ := fresh4 (V := V) hbwb rfl) | skip)))
            all_goals (go_wp2_with fail; go_meet)
            all_goals (
              go_split_ands
              first
                | exact ⟨_, q5, rfl, rfl, by simp, by simp, by simp, by simp, (h5.low (by first | exact Nat.le_refl _ | simp)).below (grow_alloc (Below.refl _ _) _), hzwb, Hid.out (by assumption)⟩
                | exact ⟨_, q5, rfl, rfl, (set_off (by decide) (set_off (by decide) (set_off (by decide) (set_here t0)))), (set_off (by decide) (set_off (by decide) (set_here (set_off (by decide) t1)))), (set_off (by decide) (set_here (set_off (by decide) (set_off (by decide) t2)))), (set_here (set_off (by decide) (set_off (by decide) (set_off (by decide) t3)))), ((((h5.set _ 0 _ tl).set _ 1 _ tl).set _ 2 _ tl).set _ 3 _ tl).low (Nat.le_of_lt tl), Nat.le_refl _, Hid.out (by assumption)⟩)
          case rest =>
            obtain ⟨b5, q5, rfl, rfl, m0, m1, m2, m3, HQ5, hb5, hbc⟩ := hcut
            obtain ⟨V5, hren⟩ : ∃ V5 : World, V5 = wc := ⟨_, rfl⟩
            subst hren
            have k0 := ext_cell hbc.out k0
            have k1 := ext_cell hbc.out k1
            have k2 := ext_cell hbc.out k2
            have k3 := ext_cell hbc.out k3
            have KF5 : Hid (∀ j, V5.frozen? ⟨b1, j, none⟩ = false) := fun j => (hbc.out.frozen (p := ⟨b1, j, none⟩) hsb2.out).trans (KF2.out j)
            have kf := KF5.out
            have B5 : Hid (Below W.heap.size W V5) := grow_trans BV2.out hbc.out
            clear KS p0 p1 d0 c0 c1 c2 KF2
            go_wp2
            go_roundw
            case rel =>
              refine ⟨k + 1, q5, S5, by go_num, by omega, (set_off (by decide) (set_off (by decide) (set_off (by decide) (set_here k0)))), (set_off (by decide) (set_off (by decide) (set_here (set_off (by decide) k1)))), (set_off (by decide) (set_here (set_off (by decide) (set_off (by decide) k2)))), (set_here (set_off (by decide) (set_off (by decide) (set_off (by decide) k3)))), ?_, ?_, HIN, ?_⟩
              · intro j
                simp [kf]
              · exact (((((HQ5.out.set _ 0 _ hsb2.out).set _ 1 _ hsb2.out).set _ 2 _ hsb2.out).set _ 3 _ hsb2.out).low BV2.out.size)
              · exact grow_set (grow_set (grow_set (grow_set B5.out hbb.out _) hbb.out _) hbb.out _) hbb.out _
            case measure => simp [intOf]; omega
end Go.Proofs.YtebjkmknhpgemaaGreat

namespace Go.Proofs.YtebjkmknhpgemaaGreat
open Go.RowKit

theorem sameInts_eq (zs : List Int) (a a' : Option Addr) (c c' : Nat) (w : World) (hl : zs.length ≤ 100) (h1 : IsInts w a zs) (h2 : IsInts w a' zs) :
    Calls Tryz.prog 37 #[.slice a zs.length c, .slice a' zs.length c'] w fun e w' => e = .returned (.bool true) ∧ Below w.heap.size w w' := by
  refine (sameInts_any zs zs a a' c c' w (by unfold maxLen; omega) h1 h2).mono ?_
  rintro e w' ⟨rfl, hb⟩
  exact ⟨by simp, hb⟩
variable (sa ra wa va sa' ra' wa' va' : Option Addr) (sc rc tc vc sc' rc' tc' vc' : Nat) (S : SA)
set_option maxRecDepth 100000 in
set_option maxHeartbeats 4000000 in
/-- Two states that are the same are found the same. -/
theorem sameStates_eq (w : World) (hs : Sta w sa ra wa va S) (ht : Sta w sa' ra' wa' va' S) (h8 : S.st.length ≤ 100) (hr : S.rd.length ≤ 100) (hw : S.wr.length ≤ 100) (hv : S.vs.length ≤ 100) (hb : ∀ i, (S.rd.getD i []).length ≤ 100 ∧ (S.wr.getD i []).length ≤ 100 ∧ (S.vs.getD i []).length ≤ 100) :
    Calls Tryz.prog 21 #[.agg #[.slice sa S.st.length sc, .slice ra S.rd.length rc, .slice wa S.wr.length tc, .slice va S.vs.length vc], .agg #[.slice sa' S.st.length sc', .slice ra' S.rd.length rc', .slice wa' S.wr.length tc', .slice va' S.vs.length vc']] w fun e w' => e = .returned (.bool true) ∧ Below w.heap.size w w' := by
  have hW : Hid (Below w.heap.size w ((w.alloc (.cells #[.slice sa S.st.length sc, .slice ra S.rd.length rc, .slice wa S.wr.length tc, .slice va S.vs.length vc] 29)).alloc (.cells #[.slice sa' S.st.length sc', .slice ra' S.rd.length rc', .slice wa' S.wr.length tc', .slice va' S.vs.length vc'] 29))) := grow_alloc (grow_alloc (Below.refl _ _) _) _
  have x0 : ((w.alloc (.cells #[.slice sa S.st.length sc, .slice ra S.rd.length rc, .slice wa S.wr.length tc, .slice va S.vs.length vc] 29)).alloc (.cells #[.slice sa' S.st.length sc', .slice ra' S.rd.length rc', .slice wa' S.wr.length tc', .slice va' S.vs.length vc'] 29)).cell? ⟨w.heap.size, 0, none⟩ = some (.slice sa S.st.length sc) := ext_cell (grow_alloc (Below.refl _ _) _) (at_new _ _ 29 _ 0 _ rfl rfl)
  have x1 : ((w.alloc (.cells #[.slice sa S.st.length sc, .slice ra S.rd.length rc, .slice wa S.wr.length tc, .slice va S.vs.length vc] 29)).alloc (.cells #[.slice sa' S.st.length sc', .slice ra' S.rd.length rc', .slice wa' S.wr.length tc', .slice va' S.vs.length vc'] 29)).cell? ⟨w.heap.size, 1, none⟩ = some (.slice ra S.rd.length rc) := ext_cell (grow_alloc (Below.refl _ _) _) (at_new _ _ 29 _ 1 _ rfl rfl)
  have x2 : ((w.alloc (.cells #[.slice sa S.st.length sc, .slice ra S.rd.length rc, .slice wa S.wr.length tc, .slice va S.vs.length vc] 29)).alloc (.cells #[.slice sa' S.st.length sc', .slice ra' S.rd.length rc', .slice wa' S.wr.length tc', .slice va' S.vs.length vc'] 29)).cell? ⟨w.heap.size, 2, none⟩ = some (.slice wa S.wr.length tc) := ext_cell (grow_alloc (Below.refl _ _) _) (at_new _ _ 29 _ 2 _ rfl rfl)
  have x3 : ((w.alloc (.cells #[.slice sa S.st.length sc, .slice ra S.rd.length rc, .slice wa S.wr.length tc, .slice va S.vs.length vc] 29)).alloc (.cells #[.slice sa' S.st.length sc', .slice ra' S.rd.length rc', .slice wa' S.wr.length tc', .slice va' S.vs.length vc'] 29)).cell? ⟨w.heap.size, 3, none⟩ = some (.slice va S.vs.length vc) := ext_cell (grow_alloc (Below.refl _ _) _) (at_new _ _ 29 _ 3 _ rfl rfl)
  have y0 : ((w.alloc (.cells #[.slice sa S.st.length sc, .slice ra S.rd.length rc, .slice wa S.wr.length tc, .slice va S.vs.length vc] 29)).alloc (.cells #[.slice sa' S.st.length sc', .slice ra' S.rd.length rc', .slice wa' S.wr.length tc', .slice va' S.vs.length vc'] 29)).cell? ⟨w.heap.size + 1, 0, none⟩ = some (.slice sa' S.st.length sc') := at_new _ _ 29 _ 0 _ (by simp) rfl
  have y1 : ((w.alloc (.cells #[.slice sa S.st.length sc, .slice ra S.rd.length rc, .slice wa S.wr.length tc, .slice va S.vs.length vc] 29)).alloc (.cells #[.slice sa' S.st.length sc', .slice ra' S.rd.length rc', .slice wa' S.wr.length tc', .slice va' S.vs.length vc'] 29)).cell? ⟨w.heap.size + 1, 1, none⟩ = some (.slice ra' S.rd.length rc') := at_new _ _ 29 _ 1 _ (by simp) rfl
  have y2 : ((w.alloc (.cells #[.slice sa S.st.length sc, .slice ra S.rd.length rc, .slice wa S.wr.length tc, .slice va S.vs.length vc] 29)).alloc (.cells #[.slice sa' S.st.length sc', .slice ra' S.rd.length rc', .slice wa' S.wr.length tc', .slice va' S.vs.length vc'] 29)).cell? ⟨w.heap.size + 1, 2, none⟩ = some (.slice wa' S.wr.length tc') := at_new _ _ 29 _ 2 _ (by simp) rfl
  have y3 : ((w.alloc (.cells #[.slice sa S.st.length sc, .slice ra S.rd.length rc, .slice wa S.wr.length tc, .slice va S.vs.length vc] 29)).alloc (.cells #[.slice sa' S.st.length sc', .slice ra' S.rd.length rc', .slice wa' S.wr.length tc', .slice va' S.vs.length vc'] 29)).cell? ⟨w.heap.size + 1, 3, none⟩ = some (.slice va' S.vs.length vc') := at_new _ _ 29 _ 3 _ (by simp) rfl
  have KEEP : Hid (∀ w', Below ((w.alloc (.cells #[.slice sa S.st.length sc, .slice ra S.rd.length rc, .slice wa S.wr.length tc, .slice va S.vs.length vc] 29)).alloc (.cells #[.slice sa' S.st.length sc', .slice ra' S.rd.length rc', .slice wa' S.wr.length tc', .slice va' S.vs.length vc'] 29)).heap.size ((w.alloc (.cells #[.slice sa S.st.length sc, .slice ra S.rd.length rc, .slice wa S.wr.length tc, .slice va S.vs.length vc] 29)).alloc (.cells #[.slice sa' S.st.length sc', .slice ra' S.rd.length rc', .slice wa' S.wr.length tc', .slice va' S.vs.length vc'] 29)) w' → w'.cell? ⟨w.heap.size, 0, none⟩ = some (.slice sa S.st.length sc) ∧ w'.cell? ⟨w.heap.size, 1, none⟩ = some (.slice ra S.rd.length rc) ∧ w'.cell? ⟨w.heap.size, 2, none⟩ = some (.slice wa S.wr.length tc) ∧ w'.cell? ⟨w.heap.size, 3, none⟩ = some (.slice va S.vs.length vc) ∧ w'.cell? ⟨w.heap.size + 1, 0, none⟩ = some (.slice sa' S.st.length sc') ∧ w'.cell? ⟨w.heap.size + 1, 1, none⟩ = some (.slice ra' S.rd.length rc') ∧ w'.cell? ⟨w.heap.size + 1, 2, none⟩ = some (.slice wa' S.wr.length tc') ∧ w'.cell? ⟨w.heap.size + 1, 3, none⟩ = some (.slice va' S.vs.length vc')) := fun w' hb => ⟨ext_cell hb x0, ext_cell hb x1, ext_cell hb x2, ext_cell hb x3, ext_cell hb y0, ext_cell hb y1, ext_cell hb y2, ext_cell hb y3⟩
  have HS : Hid (Sta ((w.alloc (.cells #[.slice sa S.st.length sc, .slice ra S.rd.length rc, .slice wa S.wr.length tc, .slice va S.vs.length vc] 29)).alloc (.cells #[.slice sa' S.st.length sc', .slice ra' S.rd.length rc', .slice wa' S.wr.length tc', .slice va' S.vs.length vc'] 29)) sa ra wa va S) := hs.below hW.out
  have HT : Hid (Sta ((w.alloc (.cells #[.slice sa S.st.length sc, .slice ra S.rd.length rc, .slice wa S.wr.length tc, .slice va S.vs.length vc] 29)).alloc (.cells #[.slice sa' S.st.length sc', .slice ra' S.rd.length rc', .slice wa' S.wr.length tc', .slice va' S.vs.length vc'] 29)) sa' ra' wa' va' S) := ht.below hW.out
  have HB : Hid (∀ i (_n : Nat), (S.rd.getD i []).length ≤ 100 ∧ (S.wr.getD i []).length ≤ 100 ∧ (S.vs.getD i []).length ≤ 100) := fun i _ => hb i
  clear hs ht hb x0 x1 x2 x3 y0 y1 y2 y3
  go_enter Tryz.func21, Tryz.ntmps21
  go_upto_region 1 with fail
  generalize ((w.alloc (.cells #[.slice sa S.st.length sc, .slice ra S.rd.length rc, .slice wa S.wr.length tc, .slice va S.vs.length vc] 29)).alloc (.cells #[.slice sa' S.st.length sc', .slice ra' S.rd.length rc', .slice wa' S.wr.length tc', .slice va' S.vs.length vc'] 29)) = W at *
  obtain ⟨x0, x1, x2, x3, y0, y1, y2, y3⟩ := KEEP.out W (Below.refl _ _)
  go_wp2_with fail
  refine (sameInts_eq S.st sa sa' sc sc' _ h8 HS.out.st HT.out.st).mono ?_
  rintro e w0 ⟨rfl, hb0⟩
  have ATS : Hid (Below W.heap.size W w0) := hb0
  clear hb0 x0 x1 x2 x3 y0 y1 y2 y3
  obtain ⟨x0, x1, x2, x3, y0, y1, y2, y3⟩ := KEEP.out w0 ATS.out
  have b1 : ((S.rd.length : Int) != (S.rd.length : Int)) = false := by simp
  have b2 : ((S.wr.length : Int) != (S.wr.length : Int)) = false := by simp
  have b3 : ((S.vs.length : Int) != (S.vs.length : Int)) = false := by simp
  go_wp2
  clear x0 x1 x2 x3 y0 y1 y2 y3 b1 b2 b3
  go_loopw [5] (fun v wr => ∃ i : Nat, i ≤ S.rd.length ∧ v = .int .i64 i ∧ Hid (Below W.heap.size W wr)) (fun v _ => S.rd.length - (intOf v).toNat)
  case atStart => exact ⟨0, Nat.zero_le _, rfl, ATS⟩
  case round =>
    obtain ⟨i, hi, rfl, hB⟩ := hrel
    by_cases hlt : i < S.rd.length
    · have i1 : (i : Int) < (S.rd.length : Int) := by omega
      obtain ⟨x0, x1, x2, x3, y0, y1, y2, y3⟩ := KEEP.out wr hB.out
      obtain ⟨b, off, a0, c0, e, _, z0, zi, _⟩ := (HS.out.below hB.out).rd i hlt
      obtain ⟨b2, off2, a1, c1, e', _, z1, zi', _⟩ := (HT.out.below hB.out).rd i hlt
      rw [e] at x1
      rw [e'] at y1
      have CL : Hid (∀ w', Below wr.heap.size wr w' → Calls Tryz.prog 58 #[.slice a0 (S.rd.getD i []).length c0, .slice a1 (S.rd.getD i []).length c1] w' fun e w'' => e = .returned (.bool true) ∧ Below w'.heap.size w' w'') := fun w' hb => sameBools_eq (S.rd.getD i []) a0 a1 c0 c1 w' (HB.out i 0).1 (zi.below hb) (zi'.below hb)
      generalize S.rd.getD i [] = row at *
      clear e e' zi zi' x0 x2 x3 y0 y2 y3
      have KS : Hid (∀ w', Below wr.heap.size wr w' → w'.cell? ⟨w.heap.size, 1, none⟩ = some (.slice (some ⟨b, off, none⟩) S.rd.length rc) ∧ w'.cell? ⟨w.heap.size + 1, 1, none⟩ = some (.slice (some ⟨b2, off2, none⟩) S.rd.length rc') ∧ w'.cell? ⟨b, off + i, none⟩ = some (.slice a0 row.length c0) ∧ w'.cell? ⟨b2, off2 + i, none⟩ = some (.slice a1 row.length c1) ∧ Hid (Below wr.heap.size wr w')) := fun w' hb => ⟨ext_cell hb x1, ext_cell hb y1, ext_cell hb z0, ext_cell hb z1, hb⟩
      go_upto_region 6 with fail
      go_region_held3 (fun w' => w'.cell? ⟨w.heap.size, 1, none⟩ = some (.slice (some ⟨b, off, none⟩) S.rd.length rc) ∧ w'.cell? ⟨w.heap.size + 1, 1, none⟩ = some (.slice (some ⟨b2, off2, none⟩) S.rd.length rc') ∧ w'.cell? ⟨b, off + i, none⟩ = some (.slice a0 row.length c0) ∧ w'.cell? ⟨b2, off2 + i, none⟩ = some (.slice a1 row.length c1) ∧ Hid (Below wr.heap.size wr w')) ((refine KS.out _ ?_; go_split_ands; repeat (first | assumption | exact Below.refl _ _ | exact Hid.out (by assumption) | refine grow_drew ?_ | refine grow_alloc ?_ _ | refine grow_trans ?_ (by assumption))))
        (first
          | (go_at_call 58; refine (CL.out _ ?_).mono ?_; (go_split_ands; repeat (first | assumption | exact Below.refl _ _ | exact Hid.out (by assumption) | refine grow_drew ?_ | refine grow_alloc ?_ _ | refine grow_trans ?_ (by assumption))); rintro e w1 ⟨rfl, hb1⟩))
      all_goals (
        go_split_ands
        have B1 : Hid (Below W.heap.size W w1) := grow_trans hB.out (Hid.out (by assumption))
        go_wp2
        go_roundw
        case rel => exact ⟨i + 1, by omega, by go_num, B1⟩
        case measure => simp [intOf]; omega)
    · have i1 : ¬ (i : Int) < (S.rd.length : Int) := by omega
      obtain ⟨x0, x1, x2, x3, y0, y1, y2, y3⟩ := KEEP.out wr hB.out
      clear ATS
      have ATS : Hid (Below W.heap.size W wr) := hB
      clear hB hlt hi
      go_wp2
      clear i1 x0 x1 x2 x3 y0 y1 y2 y3
      go_loopw [6] (fun v wr => ∃ i : Nat, i ≤ S.wr.length ∧ v = .int .i64 i ∧ Hid (Below W.heap.size W wr)) (fun v _ => S.wr.length - (intOf v).toNat)
      case atStart => exact ⟨0, Nat.zero_le _, rfl, ATS⟩
      case round =>
        obtain ⟨i, hi, rfl, hB⟩ := hrel
        by_cases hlt : i < S.wr.length
        · have i1 : (i : Int) < (S.wr.length : Int) := by omega
          obtain ⟨x0, x1, x2, x3, y0, y1, y2, y3⟩ := KEEP.out wr hB.out
          obtain ⟨b, off, a0, c0, e, _, z0, zi, _⟩ := (HS.out.below hB.out).wr i hlt
          obtain ⟨b2, off2, a1, c1, e', _, z1, zi', _⟩ := (HT.out.below hB.out).wr i hlt
          rw [e] at x2
          rw [e'] at y2
          have CL : Hid (∀ w', Below wr.heap.size wr w' → Calls Tryz.prog 58 #[.slice a0 (S.wr.getD i []).length c0, .slice a1 (S.wr.getD i []).length c1] w' fun e w'' => e = .returned (.bool true) ∧ Below w'.heap.size w' w'') := fun w' hb => sameBools_eq (S.wr.getD i []) a0 a1 c0 c1 w' (HB.out i 0).2.1 (zi.below hb) (zi'.below hb)
          generalize S.wr.getD i [] = row at *
          clear e e' zi zi' x0 x1 x3 y0 y1 y3
          have KS : Hid (∀ w', Below wr.heap.size wr w' → w'.cell? ⟨w.heap.size, 2, none⟩ = some (.slice (some ⟨b, off, none⟩) S.wr.length tc) ∧ w'.cell? ⟨w.heap.size + 1, 2, none⟩ = some (.slice (some ⟨b2, off2, none⟩) S.wr.length tc') ∧ w'.cell? ⟨b, off + i, none⟩ = some (.slice a0 row.length c0) ∧ w'.cell? ⟨b2, off2 + i, none⟩ = some (.slice a1 row.length c1) ∧ Hid (Below wr.heap.size wr w')) := fun w' hb => ⟨ext_cell hb x2, ext_cell hb y2, ext_cell hb z0, ext_cell hb z1, hb⟩
          go_upto_region 11 with fail
          go_region_held3 (fun w' => w'.cell? ⟨w.heap.size, 2, none⟩ = some (.slice (some ⟨b, off, none⟩) S.wr.length tc) ∧ w'.cell? ⟨w.heap.size + 1, 2, none⟩ = some (.slice (some ⟨b2, off2, none⟩) S.wr.length tc') ∧ w'.cell? ⟨b, off + i, none⟩ = some (.slice a0 row.length c0) ∧ w'.cell? ⟨b2, off2 + i, none⟩ = some (.slice a1 row.length c1) ∧ Hid (Below wr.heap.size wr w')) ((refine KS.out _ ?_; go_split_ands; repeat (first | assumption | exact Below.refl _ _ | exact Hid.out (by assumption) | refine grow_drew ?_ | refine grow_alloc ?_ _ | refine grow_trans ?_ (by assumption))))
            (first
              | (go_at_call 58; refine (CL.out _ ?_).mono ?_; (go_split_ands; repeat (first | assumption | exact Below.refl _ _ | exact Hid.out (by assumption) | refine grow_drew ?_ | refine grow_alloc ?_ _ | refine grow_trans ?_ (by assumption))); rintro e w1 ⟨rfl, hb1⟩))
          all_goals (
            go_split_ands
            have B1 : Hid (Below W.heap.size W w1) := grow_trans hB.out (Hid.out (by assumption))
            go_wp2
            go_roundw
            case rel => exact ⟨i + 1, by omega, by go_num, B1⟩
            case measure => simp [intOf]; omega)
        · have i1 : ¬ (i : Int) < (S.wr.length : Int) := by omega
          obtain ⟨x0, x1, x2, x3, y0, y1, y2, y3⟩ := KEEP.out wr hB.out
          clear ATS
          have ATS : Hid (Below W.heap.size W wr) := hB
          clear hB hlt hi
          go_wp2
          clear i1 x0 x1 x2 x3 y0 y1 y2 y3
          go_loopw [7] (fun v wr => ∃ i : Nat, i ≤ S.vs.length ∧ v = .int .i64 i ∧ Hid (Below W.heap.size W wr)) (fun v _ => S.vs.length - (intOf v).toNat)
          case atStart => exact ⟨0, Nat.zero_le _, rfl, ATS⟩
          case round =>
            obtain ⟨i, hi, rfl, hB⟩ := hrel
            by_cases hlt : i < S.vs.length
            · have i1 : (i : Int) < (S.vs.length : Int) := by omega
              obtain ⟨x0, x1, x2, x3, y0, y1, y2, y3⟩ := KEEP.out wr hB.out
              obtain ⟨b, off, a0, c0, e, _, z0, zi, _⟩ := (HS.out.below hB.out).vs i hlt
              obtain ⟨b2, off2, a1, c1, e', _, z1, zi', _⟩ := (HT.out.below hB.out).vs i hlt
              rw [e] at x3
              rw [e'] at y3
              have CL : Hid (∀ w', Below wr.heap.size wr w' → Calls Tryz.prog 37 #[.slice a0 (S.vs.getD i []).length c0, .slice a1 (S.vs.getD i []).length c1] w' fun e w'' => e = .returned (.bool true) ∧ Below w'.heap.size w' w'') := fun w' hb => sameInts_eq (S.vs.getD i []) a0 a1 c0 c1 w' (HB.out i 0).2.2 (zi.below hb) (zi'.below hb)
              generalize S.vs.getD i [] = row at *
              clear e e' zi zi' x0 x1 x2 y0 y1 y2
              have KS : Hid (∀ w', Below wr.heap.size wr w' → w'.cell? ⟨w.heap.size, 3, none⟩ = some (.slice (some ⟨b, off, none⟩) S.vs.length vc) ∧ w'.cell? ⟨w.heap.size + 1, 3, none⟩ = some (.slice (some ⟨b2, off2, none⟩) S.vs.length vc') ∧ w'.cell? ⟨b, off + i, none⟩ = some (.slice a0 row.length c0) ∧ w'.cell? ⟨b2, off2 + i, none⟩ = some (.slice a1 row.length c1) ∧ Hid (Below wr.heap.size wr w')) := fun w' hb => ⟨ext_cell hb x3, ext_cell hb y3, ext_cell hb z0, ext_cell hb z1, hb⟩
              go_upto_region 16 with fail
              go_region_held3 (fun w' => w'.cell? ⟨w.heap.size, 3, none⟩ = some (.slice (some ⟨b, off, none⟩) S.vs.length vc) ∧ w'.cell? ⟨w.heap.size + 1, 3, none⟩ = some (.slice (some ⟨b2, off2, none⟩) S.vs.length vc') ∧ w'.cell? ⟨b, off + i, none⟩ = some (.slice a0 row.length c0) ∧ w'.cell? ⟨b2, off2 + i, none⟩ = some (.slice a1 row.length c1) ∧ Hid (Below wr.heap.size wr w')) ((refine KS.out _ ?_; go_split_ands; repeat (first | assumption | exact Below.refl _ _ | exact Hid.out (by assumption) | refine grow_drew ?_ | refine grow_alloc ?_ _ | refine grow_trans ?_ (by assumption))))
                (first
                  | (go_at_call 37; refine (CL.out _ ?_).mono ?_; (go_split_ands; repeat (first | assumption | exact Below.refl _ _ | exact Hid.out (by assumption) | refine grow_drew ?_ | refine grow_alloc ?_ _ | refine grow_trans ?_ (by assumption))); rintro e w1 ⟨rfl, hb1⟩))
              all_goals (
                go_split_ands
                have B1 : Hid (Below W.heap.size W w1) := grow_trans hB.out (Hid.out (by assumption))
                go_wp2
                go_roundw
                case rel => exact ⟨i + 1, by omega, by go_num, B1⟩
                case measure => simp [intOf]; omega)
            · have i1 : ¬ (i : Int) < (S.vs.length : Int) := by omega
              obtain ⟨x0, x1, x2, x3, y0, y1, y2, y3⟩ := KEEP.out wr hB.out
              have BF : Hid (Below w.heap.size w wr) := grow_trans hW.out hB.out
              go_wp2
              go_ret
              exact ⟨rfl, BF.out⟩
end Go.Proofs.YtebjkmknhpgemaaGreat

namespace Go.Proofs.YtebjkmknhpgemaaGreat
open Go.RowKit

theorem vs_small {m : Int} {l : List TxA} {S : SA} (h : stE m l S = 0) : S.st.length ≤ 100 ∧ S.rd.length ≤ 100 ∧ S.wr.length ≤ 100 ∧ S.vs.length ≤ 100 ∧ ∀ i, (S.rd.getD i []).length ≤ 100 ∧ (S.wr.getD i []).length ≤ 100 ∧ (S.vs.getD i []).length ≤ 100 := by
  obtain ⟨sh, rfl, _, h4, hc, _, hf, _⟩ := stE_zero h
  have f := formB_iff.1 hf
  have h8 := chkL_len hc
  refine ⟨by rw [f.st]; omega, by rw [f.rd]; omega, by rw [f.wr]; omega, by rw [f.vs]; omega, fun i => ?_⟩
  by_cases hi : i < l.length
  · have hr4 := (many_small _ _ _ (chk_parts (chkL_in hc i hi)).1).1
    have e := f.vn i hi
    have hr4' : (gX l i).rs.length ≤ 4 := hr4
    rw [f.rn i hi, f.wn i hi, e]
    omega
  · have a1 : S.rd.getD i [] = [] := by simp [List.getD, List.getElem?_eq_none (show S.rd.length ≤ i by rw [f.rd]; omega)]
    have a2 : S.wr.getD i [] = [] := by simp [List.getD, List.getElem?_eq_none (show S.wr.length ≤ i by rw [f.wr]; omega)]
    have a3 : S.vs.getD i [] = [] := by simp [List.getD, List.getElem?_eq_none (show S.vs.length ≤ i by rw [f.vs]; omega)]
    rw [a1, a2, a3]
    simp
theorem same_q {m : Int} {l : List TxA} {S : SA} {q q' : Q4} {w : World} (h : stE m l S = 0) (hq : StaQ S q w) (hq' : StaQ S q' w) : Calls Tryz.prog 21 #[.agg #[.slice q.sa q.sn q.sc, .slice q.ra q.rn q.rc, .slice q.wa q.wn q.tc, .slice q.va q.vn q.vc], .agg #[.slice q'.sa q'.sn q'.sc, .slice q'.ra q'.rn q'.rc, .slice q'.wa q'.wn q'.tc, .slice q'.va q'.vn q'.vc]] w fun e w' => e = .returned (.bool true) ∧ Below w.heap.size w w' := by
  obtain ⟨e1, e2, e3, e4, hs⟩ := hq
  obtain ⟨d1, d2, d3, d4, ht⟩ := hq'
  rw [e1, e2, e3, e4, d1, d2, d3, d4]
  obtain ⟨a1, a2, a3, a4, a5⟩ := vs_small h
  exact sameStates_eq q.sa q.ra q.wa q.va q'.sa q'.ra q'.wa q'.va q.sc q.rc q.tc q.vc q'.sc q'.rc q'.tc q'.vc S w hs ht a1 a2 a3 a4 a5
theorem step_ne {x y : Nat × Nat × Nat} (h : x ≠ y) : ((x.1 : Int) == (y.1 : Int) && (x.2.1 : Int) == (y.2.1 : Int) && (x.2.2 : Int) == (y.2.2 : Int)) = false := by
  rw [← Bool.not_eq_true]
  intro e
  simp only [Bool.and_eq_true, beq_iff_eq] at e
  obtain ⟨⟨e1, e2⟩, e3⟩ := e
  exact h (Prod.ext (by omega) (Prod.ext (by omega) (by omega)))

variable (la : Option Addr) (lc : Nat) (l : List TxA) (sa : Option Addr) (sc : Nat) (s : List Int) (pa : Option Addr) (pc : Nat) (pk : List Int)

set_option maxRecDepth 100000 in
set_option maxHeartbeats 4000000 in
theorem stepsEither_walk (m i j : Int) (w : World) (hl : IsTxs w la l) (hs : IsInts w sa s) (hp : IsInts w pa pk) (hw : ∀ i, i < pk.length → (Lit.int .i64 (pk.getD i 0)).wf = true) (hi : (Lit.int .i64 i).wf = true) (hj : (Lit.int .i64 j).wf = true) :
    Calls Tryz.prog 7 #[.agg #[.int .i64 m, .slice la l.length lc], .slice sa s.length sc, .slice pa pk.length pc, .int .i64 i, .int .i64 j] w fun e w' => e = .returned (.bool true) ∧ Below w.heap.size w w' := by
  have he48 := eqIn48
  have hg : Below w.heap.size w (w.alloc (.cells #[.int .i64 m, .slice la l.length lc] 24)) := grow_alloc (Below.refl _ _) _
  have HG : Hid (Below w.heap.size w (w.alloc (.cells #[.int .i64 m, .slice la l.length lc] 24))) := hg
  have HBB : Hid (∀ w, Calls Tryz.prog 20 #[] w fun e w' => e = .returned (.bool true) ∧ Below w.heap.size w w') := stepsBegun_any
  have p0 : (w.alloc (.cells #[.int .i64 m, .slice la l.length lc] 24)).cell? ⟨w.heap.size, 0, none⟩ = some (.int .i64 m) := at_new w _ 24 _ 0 _ rfl rfl
  have p1 : (w.alloc (.cells #[.int .i64 m, .slice la l.length lc] 24)).cell? ⟨w.heap.size, 1, none⟩ = some (.slice la l.length lc) := at_new w _ 24 _ 1 _ rfl rfl
  have KEEP : Hid (∀ w', Below (w.alloc (.cells #[.int .i64 m, .slice la l.length lc] 24)).heap.size (w.alloc (.cells #[.int .i64 m, .slice la l.length lc] 24)) w' → w'.cell? ⟨w.heap.size, 0, none⟩ = some (.int .i64 m) ∧ w'.cell? ⟨w.heap.size, 1, none⟩ = some (.slice la l.length lc)) := fun w' hb => ⟨ext_cell hb p0, ext_cell hb p1⟩
  have CR : Hid (Calls Tryz.prog 28 #[.agg #[.int .i64 m, .slice la l.length lc], .slice sa s.length sc, .slice pa pk.length pc] (w.alloc (.cells #[.int .i64 m, .slice la l.length lc] 24)) fun e w' => ∃ (q : Q4) (b : Bool) (S' : SA), e = .returned (.tuple #[.agg #[.slice q.sa q.sn q.sc, .slice q.ra q.rn q.rc, .slice q.wa q.wn q.tc, .slice q.va q.vn q.vc], .bool b]) ∧ StaQ S' q w' ∧ Below (w.alloc (.cells #[.int .i64 m, .slice la l.length lc] 24)).heap.size (w.alloc (.cells #[.int .i64 m, .slice la l.length lc] 24)) w' ∧ (b = true → begE m l s = 0 ∧ Inv m.toNat l s S') ∧ (b = false → ¬ begE m l s = 0)) := reached_any la lc l sa sc s pa pc pk m (w.alloc (.cells #[.int .i64 m, .slice la l.length lc] 24)) (hl.below hg) (hs.below hg) (hp.below hg) hw
  have HL : Hid (IsTxs (w.alloc (.cells #[.int .i64 m, .slice la l.length lc] 24)) la l) := hl.below hg
  have HWI : Hid ((Lit.int .i64 i).wf = true) := hi
  have HWJ : Hid ((Lit.int .i64 j).wf = true) := hj
  have CP : Hid (∀ w', Below (w.alloc (.cells #[.int .i64 m, .slice la l.length lc] 24)).heap.size (w.alloc (.cells #[.int .i64 m, .slice la l.length lc] 24)) w' → Calls Tryz.prog 16 #[.agg #[.int .i64 m, .slice la l.length lc]] w' fun e w'' => e = .returned (.int .i64 (planE m l)) ∧ Below w'.heap.size w' w'') := fun w' hb => checkPlan_any la lc l m w' ((hl.below hg).below hb)
  have CI : Hid (∀ w', Calls Tryz.prog 17 #[.slice sa s.length sc] w' fun e w'' => e = .returned (.bool (decide (s.length = 8))) ∧ w'' = w') := fun w' => isStore_any s sa sc w'
  have HBZ : Hid (¬ begE m l s = 0 → ¬ planE m l = 0 ∨ ¬ s.length = 8) := fun h => by
    by_cases h1 : planE m l = 0
    · right
      intro h2
      apply h
      unfold begE lenE
      rw [h1, if_pos h2]
      rfl
    · exact .inl h1
  clear hl hs hp hg hw p0 p1 hi hj
  go_enter Tryz.func7, Tryz.ntmps7
  go_upto_region 1 with fail
  generalize (w.alloc (.cells #[.int .i64 m, .slice la l.length lc] 24)) = W at *
  obtain ⟨p0, p1⟩ := KEEP.out W (Below.refl _ _)
  go_wp2_with fail
  refine CR.out.mono ?_
  rintro e w1 ⟨q, b, S, rfl, hq, hb1, hT, hF⟩
  have gA : Below w1.heap.size w1 (w1.alloc (.cells #[.slice q.sa q.sn q.sc, .slice q.ra q.rn q.rc, .slice q.wa q.wn q.tc, .slice q.va q.vn q.vc] 29)) := grow_alloc (Below.refl _ _) _
  have BV : Hid (Below W.heap.size W (w1.alloc (.cells #[.slice q.sa q.sn q.sc, .slice q.ra q.rn q.rc, .slice q.wa q.wn q.tc, .slice q.va q.vn q.vc] 29))) := grow_trans hb1 gA
  have HQ : Hid (StaQ S q (w1.alloc (.cells #[.slice q.sa q.sn q.sc, .slice q.ra q.rn q.rc, .slice q.wa q.wn q.tc, .slice q.va q.vn q.vc] 29))) := hq.below gA
  have k0 : (w1.alloc (.cells #[.slice q.sa q.sn q.sc, .slice q.ra q.rn q.rc, .slice q.wa q.wn q.tc, .slice q.va q.vn q.vc] 29)).cell? ⟨w1.heap.size, 0, none⟩ = some (.slice q.sa q.sn q.sc) := at_new _ _ 29 _ 0 _ rfl rfl
  have k1 : (w1.alloc (.cells #[.slice q.sa q.sn q.sc, .slice q.ra q.rn q.rc, .slice q.wa q.wn q.tc, .slice q.va q.vn q.vc] 29)).cell? ⟨w1.heap.size, 1, none⟩ = some (.slice q.ra q.rn q.rc) := at_new _ _ 29 _ 1 _ rfl rfl
  have k2 : (w1.alloc (.cells #[.slice q.sa q.sn q.sc, .slice q.ra q.rn q.rc, .slice q.wa q.wn q.tc, .slice q.va q.vn q.vc] 29)).cell? ⟨w1.heap.size, 2, none⟩ = some (.slice q.wa q.wn q.tc) := at_new _ _ 29 _ 2 _ rfl rfl
  have k3 : (w1.alloc (.cells #[.slice q.sa q.sn q.sc, .slice q.ra q.rn q.rc, .slice q.wa q.wn q.tc, .slice q.va q.vn q.vc] 29)).cell? ⟨w1.heap.size, 3, none⟩ = some (.slice q.va q.vn q.vc) := at_new _ _ 29 _ 3 _ rfl rfl
  clear hb1 gA hq CR p0 p1
  go_upto_region 2 with fail
  generalize w1.alloc (.cells #[.slice q.sa q.sn q.sc, .slice q.ra q.rn q.rc, .slice q.wa q.wn q.tc, .slice q.va q.vn q.vc] 29) = V at *
  generalize w1.heap.size = b1 at *
  obtain ⟨p0, p1⟩ := KEEP.out V BV.out
  have BW : Hid (Below w.heap.size w V) := grow_trans HG.out BV.out
  cases b with
  | false =>
    have hor := HBZ.out (hF rfl)
    clear hT hF HBZ HQ HL HWI HWJ k0 k1 k2 k3
    go_wp2_with fail
    refine (HBB.out _).mono ?_
    rintro e w2 ⟨rfl, hbx⟩
    have Bw2 : Hid (Below w.heap.size w w2) := grow_trans BW.out hbx
    have BV2 : Hid (Below W.heap.size W w2) := grow_trans BV.out hbx
    clear hbx p0 p1
    obtain ⟨p0, p1⟩ := KEEP.out w2 BV2.out
    go_wp2_with fail
    refine (CP.out _ BV2.out).mono ?_
    rintro e w3 ⟨rfl, hbx⟩
    have B3 : Hid (Below w.heap.size w w3) := grow_trans Bw2.out hbx
    clear hbx
    by_cases hpz : planE m l = 0
    · have h8 : ¬ s.length = 8 := hor.resolve_left (fun h => h hpz)
      rw [hpz]
      go_wp2_with fail
      refine (CI.out _).mono ?_
      rintro e w4 ⟨rfl, rfl⟩
      rw [decide_eq_false h8]
      go_wp2
      go_ret
      exact ⟨rfl, B3.out⟩
    · have hne : (planE m l != 0) = true := by simpa using hpz
      go_wp2_with fail
      go_ret
      exact ⟨rfl, B3.out⟩
  | true =>
    obtain ⟨hB0, hI⟩ := hT rfl
    have hst := inv_st (beg_zero hB0).1 hI
    have hL64 : (canE m l S).length ≤ 64 := by
      have e2 : canE m l S = canL m.toNat l S := if_pos hst
      obtain ⟨sh, rfl, _, h4, hc, _⟩ := stE_zero hst
      rw [e2]
      exact canL_len _ _ _ (chkL_len hc) (by simpa using h4)
    have CN : Hid (Calls Tryz.prog 24 #[.agg #[.int .i64 m, .slice la l.length lc], .agg #[.slice q.sa q.sn q.sc, .slice q.ra q.rn q.rc, .slice q.wa q.wn q.tc, .slice q.va q.vn q.vc]] V fun e w' => ∃ a c, e = .returned (.tuple #[.slice a (canE m l S).length c, .int .i64 0]) ∧ IsSteps w' a (canE m l S) ∧ Below V.heap.size V w') := by
      have h := can_q (m := m) (c := lc) (HL.out.below BV.out) HQ.out
      rw [hst] at h
      exact h
    have HST : Hid (stE m l S = 0) := hst
    have HI : Hid (Inv m.toNat l s S) := hI
    clear hT hF HBZ CP CI hB0 hI hst
    go_upto_region 4 with fail
    go_wp2_with fail
    refine CN.out.mono ?_
    rintro e V1 ⟨a, c, rfl, hsp, hb2⟩
    obtain ⟨L, hLe⟩ : ∃ L, canE m l S = L := ⟨_, rfl⟩
    rw [hLe] at hsp hL64 ⊢
    have HLE : Hid (canE m l S = L) := hLe
    clear CN hLe
    have BV1 : Hid (Below W.heap.size W V1) := grow_trans BV.out hb2
    have BW1 : Hid (Below w.heap.size w V1) := grow_trans BW.out hb2
    have HQ1 : Hid (StaQ S q V1) := HQ.out.below hb2
    have k0 := ext_cell hb2 k0
    have k1 := ext_cell hb2 k1
    have k2 := ext_cell hb2 k2
    have k3 := ext_cell hb2 k3
    clear p0 p1 BW HQ hb2 BV
    obtain ⟨p0, p1⟩ := KEEP.out V1 BV1.out
    by_cases h2 : (L.length : Int) < 2
    · clear HST HI HL HQ1 hsp k0 k1 k2 k3 p0 p1 KEEP he48
      go_wp2_with fail
      refine (HBB.out _).mono ?_
      rintro e w2 ⟨rfl, hbx⟩
      have Bw2 : Hid (Below w.heap.size w w2) := grow_trans BW1.out hbx
      clear hbx
      go_wp2
      go_ret
      exact ⟨rfl, Bw2.out⟩
    · have hLp : 0 < L.length := by omega
      have hci := chK_lt i hLp
      have hcj := chK_lt j hLp
      obtain ⟨sb, so, es, _, c0, c1, c2⟩ := hsp (chK i L.length) hci
      obtain ⟨sb', so', es', _, d0, d1, d2⟩ := hsp (chK j L.length) hcj
      subst es
      cases es'
      have CCI : Hid (∀ w', Calls Tryz.prog 29 #[.int .i64 i, .int .i64 L.length] w' fun e w'' => e = .returned (.int .i64 (chK i L.length : Nat)) ∧ w'' = w') := fun w' => choose_is i L.length w' HWI.out hLp (by omega)
      have CCJ : Hid (∀ w', Calls Tryz.prog 29 #[.int .i64 j, .int .i64 L.length] w' fun e w'' => e = .returned (.int .i64 (chK j L.length : Nat)) ∧ w'' = w') := fun w' => choose_is j L.length w' HWJ.out hLp (by omega)
      have hx : L.getD (chK i L.length) (0, 0, 0) ∈ canE m l S := by rw [HLE.out]; simp [List.getD, hci]
      have hy : L.getD (chK j L.length) (0, 0, 0) ∈ canE m l S := by rw [HLE.out]; simp [List.getD, hcj]
      obtain ⟨x, ex⟩ : ∃ x, L.getD (chK i L.length) (0, 0, 0) = x := ⟨_, rfl⟩
      obtain ⟨y, ey⟩ : ∃ y, L.getD (chK j L.length) (0, 0, 0) = y := ⟨_, rfl⟩
      rw [ex] at hx c0 c1 c2
      rw [ey] at hy d0 d1 d2
      have HX : Hid (x ∈ canE m l S) := hx
      have HY : Hid (y ∈ canE m l S) := hy
      clear hx hy ex ey hsp HWI HWJ
      go_upto_region 7 with fail
      obtain ⟨V, hren⟩ : ∃ V : World, V = V1 := ⟨_, rfl⟩
      subst hren
      have KS : Hid (∀ w', Below V.heap.size V w' → w'.cell? ⟨sb, so + chK i L.length * 3, none⟩ = some (.int .i64 (x.1 : Nat)) ∧ w'.cell? ⟨sb, so + chK i L.length * 3 + 1, none⟩ = some (.int .i64 (x.2.1 : Nat)) ∧ w'.cell? ⟨sb, so + chK i L.length * 3 + 2, none⟩ = some (.int .i64 (x.2.2 : Nat)) ∧ w'.cell? ⟨sb, so + chK j L.length * 3, none⟩ = some (.int .i64 (y.1 : Nat)) ∧ w'.cell? ⟨sb, so + chK j L.length * 3 + 1, none⟩ = some (.int .i64 (y.2.1 : Nat)) ∧ w'.cell? ⟨sb, so + chK j L.length * 3 + 2, none⟩ = some (.int .i64 (y.2.2 : Nat)) ∧ Hid (Below V.heap.size V w')) := fun w' hb => ⟨ext_cell hb c0, ext_cell hb c1, ext_cell hb c2, ext_cell hb d0, ext_cell hb d1, ext_cell hb d2, hb⟩
      go_cut [15, 16] (fun u v wx => ∃ bx bx', u = .pointer (some ⟨bx, 0, none⟩) ∧ v = .pointer (some ⟨bx', 0, none⟩) ∧ wx.cell? ⟨bx, 0, none⟩ = some (.int .i64 (x.1 : Nat)) ∧ wx.cell? ⟨bx, 1, none⟩ = some (.int .i64 (x.2.1 : Nat)) ∧ wx.cell? ⟨bx, 2, none⟩ = some (.int .i64 (x.2.2 : Nat)) ∧ wx.cell? ⟨bx', 0, none⟩ = some (.int .i64 (y.1 : Nat)) ∧ wx.cell? ⟨bx', 1, none⟩ = some (.int .i64 (y.2.1 : Nat)) ∧ wx.cell? ⟨bx', 2, none⟩ = some (.int .i64 (y.2.2 : Nat)) ∧ Hid (Below V.heap.size V wx))
      case first =>
        clear k0 k1 k2 k3 p0 p1 c0 c1 c2 d0 d1 d2 BV1 BW1 HQ1 HX HY HST HI HLE
        go_region_held3 (fun w' => w'.cell? ⟨sb, so + chK i L.length * 3, none⟩ = some (.int .i64 (x.1 : Nat)) ∧ w'.cell? ⟨sb, so + chK i L.length * 3 + 1, none⟩ = some (.int .i64 (x.2.1 : Nat)) ∧ w'.cell? ⟨sb, so + chK i L.length * 3 + 2, none⟩ = some (.int .i64 (x.2.2 : Nat)) ∧ w'.cell? ⟨sb, so + chK j L.length * 3, none⟩ = some (.int .i64 (y.1 : Nat)) ∧ w'.cell? ⟨sb, so + chK j L.length * 3 + 1, none⟩ = some (.int .i64 (y.2.1 : Nat)) ∧ w'.cell? ⟨sb, so + chK j L.length * 3 + 2, none⟩ = some (.int .i64 (y.2.2 : Nat)) ∧ Hid (Below V.heap.size V w')) ((refine KS.out _ ?_; go_split_ands; repeat (first | assumption | exact Below.refl _ _ | exact Hid.out (by assumption) | refine grow_drew ?_ | refine grow_alloc ?_ _ | refine grow_set ?_ (by first | exact Nat.le_refl _ | assumption | simp) _ | refine grow_trans ?_ (by assumption))))
          (first
            | (go_at_call_of 29 (Value.int IntKind.i64 i); refine (CCI.out _).mono ?_; rintro e wa ⟨rfl, rfl⟩)
            | (go_at_call_of 29 (Value.int IntKind.i64 j); refine (CCJ.out _).mono ?_; rintro e wa ⟨rfl, rfl⟩))
        all_goals (go_wp2_with fail; go_meet)
        all_goals (
          go_split_ands
          refine ⟨_, _, rfl, rfl, by simp, by simp, by simp, by simp, by simp, by simp, ?_⟩
          repeat (first | assumption | exact Below.refl _ _ | exact Hid.out (by assumption) | refine grow_drew ?_ | refine grow_alloc ?_ _ | refine grow_set ?_ (by first | exact Nat.le_refl _ | assumption | simp) _ | refine grow_trans ?_ (by assumption)))
      case rest =>
        obtain ⟨bx, bx', rfl, rfl, x0, x1, x2, y0, y1, y2, hbc⟩ := hcut
        obtain ⟨V2, hren⟩ : ∃ V2 : World, V2 = wc := ⟨_, rfl⟩
        subst hren
        have p0 := ext_cell hbc.out p0
        have p1 := ext_cell hbc.out p1
        have k0 := ext_cell hbc.out k0
        have k1 := ext_cell hbc.out k1
        have k2 := ext_cell hbc.out k2
        have k3 := ext_cell hbc.out k3
        have hBV2 : Hid (Below W.heap.size W V2) := grow_trans BV1.out hbc.out
        have BW2 : Hid (Below w.heap.size w V2) := grow_trans BW1.out hbc.out
        have Hq : Hid (StaQ S q V2) := HQ1.out.below hbc.out
        clear KS c0 c1 c2 d0 d1 d2 HQ1 hbc BV1 BW1 CCI CCJ KEEP
        by_cases hxy : x = y
        · subst hxy
          clear HX HY HST HI HLE Hq HL
          go_upto_region 9 with fail
          go_wp2_with fail
          refine (HBB.out _).mono ?_
          rintro e w2 ⟨rfl, hbx⟩
          have Bw2 : Hid (Below w.heap.size w w2) := grow_trans BW2.out hbx
          clear hbx
          go_wp2
          go_ret
          exact ⟨rfl, Bw2.out⟩
        · have hne := step_ne hxy
          have hst := HST.out
          have d1 := can_do0 hst HX.out
          have d2 := can_do0 hst HY.out
          have d3 := can_after hst HX.out HY.out hxy
          have d4 := can_after hst HY.out HX.out (fun e => hxy e.symm)
          have hcm := can_comm hst HI.out HX.out HY.out hxy
          have s3 := do_st (do_st hst d1) d3
          have CD : ∀ (S : SA) (z : Nat × Nat × Nat), doE m l S z.1 z.2.1 z.2.2 = 0 → ∀ (q : Q4) w', Below W.heap.size W w' → StaQ S q w' → Calls Tryz.prog 26 #[.agg #[.int .i64 m, .slice la l.length lc], .agg #[.slice q.sa q.sn q.sc, .slice q.ra q.rn q.rc, .slice q.wa q.wn q.tc, .slice q.va q.vn q.vc], .agg #[.int .i64 (z.1 : Nat), .int .i64 (z.2.1 : Nat), .int .i64 (z.2.2 : Nat)]] w' fun e w'' => ∃ q' : Q4, e = .returned (.tuple #[.agg #[.slice q'.sa q'.sn q'.sc, .slice q'.ra q'.rn q'.rc, .slice q'.wa q'.wn q'.tc, .slice q'.va q'.vn q'.vc], .int .i64 0]) ∧ StaF w'.heap.size (doS m l S z.1 z.2.1 z.2.2) q' w'' ∧ Below w'.heap.size w' w'' := fun S z h q w' hb hq => by
            have h' := do_q (m := m) (c := lc) z.1 z.2.1 z.2.2 (HL.out.below hb) hq
            rw [h] at h'
            exact h'
          have C1 : Hid (∀ (q : Q4) w', Below W.heap.size W w' → StaQ S q w' → Calls Tryz.prog 26 #[.agg #[.int .i64 m, .slice la l.length lc], .agg #[.slice q.sa q.sn q.sc, .slice q.ra q.rn q.rc, .slice q.wa q.wn q.tc, .slice q.va q.vn q.vc], .agg #[.int .i64 (x.1 : Nat), .int .i64 (x.2.1 : Nat), .int .i64 (x.2.2 : Nat)]] w' fun e w'' => ∃ q' : Q4, e = .returned (.tuple #[.agg #[.slice q'.sa q'.sn q'.sc, .slice q'.ra q'.rn q'.rc, .slice q'.wa q'.wn q'.tc, .slice q'.va q'.vn q'.vc], .int .i64 0]) ∧ StaF w'.heap.size (doS m l S x.1 x.2.1 x.2.2) q' w'' ∧ Below w'.heap.size w' w'') := CD S x d1
          have C2 : Hid (∀ (q : Q4) w', Below W.heap.size W w' → StaQ S q w' → Calls Tryz.prog 26 #[.agg #[.int .i64 m, .slice la l.length lc], .agg #[.slice q.sa q.sn q.sc, .slice q.ra q.rn q.rc, .slice q.wa q.wn q.tc, .slice q.va q.vn q.vc], .agg #[.int .i64 (y.1 : Nat), .int .i64 (y.2.1 : Nat), .int .i64 (y.2.2 : Nat)]] w' fun e w'' => ∃ q' : Q4, e = .returned (.tuple #[.agg #[.slice q'.sa q'.sn q'.sc, .slice q'.ra q'.rn q'.rc, .slice q'.wa q'.wn q'.tc, .slice q'.va q'.vn q'.vc], .int .i64 0]) ∧ StaF w'.heap.size (doS m l S y.1 y.2.1 y.2.2) q' w'' ∧ Below w'.heap.size w' w'') := CD S y d2
          have C3 : Hid (∀ (q : Q4) w', Below W.heap.size W w' → StaQ (doS m l S x.1 x.2.1 x.2.2) q w' → Calls Tryz.prog 26 #[.agg #[.int .i64 m, .slice la l.length lc], .agg #[.slice q.sa q.sn q.sc, .slice q.ra q.rn q.rc, .slice q.wa q.wn q.tc, .slice q.va q.vn q.vc], .agg #[.int .i64 (y.1 : Nat), .int .i64 (y.2.1 : Nat), .int .i64 (y.2.2 : Nat)]] w' fun e w'' => ∃ q' : Q4, e = .returned (.tuple #[.agg #[.slice q'.sa q'.sn q'.sc, .slice q'.ra q'.rn q'.rc, .slice q'.wa q'.wn q'.tc, .slice q'.va q'.vn q'.vc], .int .i64 0]) ∧ StaF w'.heap.size (doS m l (doS m l S x.1 x.2.1 x.2.2) y.1 y.2.1 y.2.2) q' w'' ∧ Below w'.heap.size w' w'') := CD _ y d3
          have C4 : Hid (∀ (q : Q4) w', Below W.heap.size W w' → StaQ (doS m l S y.1 y.2.1 y.2.2) q w' → Calls Tryz.prog 26 #[.agg #[.int .i64 m, .slice la l.length lc], .agg #[.slice q.sa q.sn q.sc, .slice q.ra q.rn q.rc, .slice q.wa q.wn q.tc, .slice q.va q.vn q.vc], .agg #[.int .i64 (x.1 : Nat), .int .i64 (x.2.1 : Nat), .int .i64 (x.2.2 : Nat)]] w' fun e w'' => ∃ q' : Q4, e = .returned (.tuple #[.agg #[.slice q'.sa q'.sn q'.sc, .slice q'.ra q'.rn q'.rc, .slice q'.wa q'.wn q'.tc, .slice q'.va q'.vn q'.vc], .int .i64 0]) ∧ StaF w'.heap.size (doS m l (doS m l S x.1 x.2.1 x.2.2) y.1 y.2.1 y.2.2) q' w'' ∧ Below w'.heap.size w' w'') := by
            have h := CD _ x d4
            rw [← hcm] at h
            exact h
          have CS : Hid (∀ (q q' : Q4) w', StaQ (doS m l (doS m l S x.1 x.2.1 x.2.2) y.1 y.2.1 y.2.2) q w' → StaQ (doS m l (doS m l S x.1 x.2.1 x.2.2) y.1 y.2.1 y.2.2) q' w' → Calls Tryz.prog 21 #[.agg #[.slice q.sa q.sn q.sc, .slice q.ra q.rn q.rc, .slice q.wa q.wn q.tc, .slice q.va q.vn q.vc], .agg #[.slice q'.sa q'.sn q'.sc, .slice q'.ra q'.rn q'.rc, .slice q'.wa q'.wn q'.tc, .slice q'.va q'.vn q'.vc]] w' fun e w'' => e = .returned (.bool true) ∧ Below w'.heap.size w' w'') := fun q q' w' h1 h2 => same_q s3 h1 h2
          clear d1 d2 d3 d4 hcm s3 CD hst HX HY HST HI HLE HL BW2 hxy
          generalize doS m l (doS m l S x.1 x.2.1 x.2.2) y.1 y.2.1 y.2.2 = S3 at *
          generalize doS m l S x.1 x.2.1 x.2.2 = S1 at *
          generalize doS m l S y.1 y.2.1 y.2.2 = S2 at *
          generalize (x.1 : Nat) = u1 at *
          generalize (x.2.1 : Nat) = u2 at *
          generalize (x.2.2 : Nat) = u3 at *
          generalize (y.1 : Nat) = v1 at *
          generalize (y.2.1 : Nat) = v2 at *
          generalize (y.2.2 : Nat) = v3 at *
          go_upto_region 10 with fail
          clear hne he48
          go_wp2_with fail
          refine (C1.out q V2 hBV2.out Hq.out).mono ?_
          rintro e w3 ⟨q1, rfl, hq1, hbx⟩
          have gA : Below w3.heap.size w3 (w3.alloc (.cells #[.slice q1.sa q1.sn q1.sc, .slice q1.ra q1.rn q1.rc, .slice q1.wa q1.wn q1.tc, .slice q1.va q1.vn q1.vc] 29)) := grow_alloc (Below.refl _ _) _
          have hbn : Below V2.heap.size V2 (w3.alloc (.cells #[.slice q1.sa q1.sn q1.sc, .slice q1.ra q1.rn q1.rc, .slice q1.wa q1.wn q1.tc, .slice q1.va q1.vn q1.vc] 29)) := grow_trans hbx gA
          have hBV3 : Hid (Below W.heap.size W (w3.alloc (.cells #[.slice q1.sa q1.sn q1.sc, .slice q1.ra q1.rn q1.rc, .slice q1.wa q1.wn q1.tc, .slice q1.va q1.vn q1.vc] 29))) := grow_trans hBV2.out hbn
          have Hq1 : Hid (StaQ S1 q1 (w3.alloc (.cells #[.slice q1.sa q1.sn q1.sc, .slice q1.ra q1.rn q1.rc, .slice q1.wa q1.wn q1.tc, .slice q1.va q1.vn q1.vc] 29))) := hq1.sta.below gA
          have Hq : Hid (StaQ S q (w3.alloc (.cells #[.slice q1.sa q1.sn q1.sc, .slice q1.ra q1.rn q1.rc, .slice q1.wa q1.wn q1.tc, .slice q1.va q1.vn q1.vc] 29))) := Hq.out.below hbn
          have p0 := ext_cell hbn p0
          have p1 := ext_cell hbn p1
          have k0 := ext_cell hbn k0
          have k1 := ext_cell hbn k1
          have k2 := ext_cell hbn k2
          have k3 := ext_cell hbn k3
          have x0 := ext_cell hbn x0
          have x1 := ext_cell hbn x1
          have x2 := ext_cell hbn x2
          have y0 := ext_cell hbn y0
          have y1 := ext_cell hbn y1
          have y2 := ext_cell hbn y2
          have a0 : (w3.alloc (.cells #[.slice q1.sa q1.sn q1.sc, .slice q1.ra q1.rn q1.rc, .slice q1.wa q1.wn q1.tc, .slice q1.va q1.vn q1.vc] 29)).cell? ⟨w3.heap.size, 0, none⟩ = some (.slice q1.sa q1.sn q1.sc) := at_new _ _ 29 _ 0 _ rfl rfl
          have a1 : (w3.alloc (.cells #[.slice q1.sa q1.sn q1.sc, .slice q1.ra q1.rn q1.rc, .slice q1.wa q1.wn q1.tc, .slice q1.va q1.vn q1.vc] 29)).cell? ⟨w3.heap.size, 1, none⟩ = some (.slice q1.ra q1.rn q1.rc) := at_new _ _ 29 _ 1 _ rfl rfl
          have a2 : (w3.alloc (.cells #[.slice q1.sa q1.sn q1.sc, .slice q1.ra q1.rn q1.rc, .slice q1.wa q1.wn q1.tc, .slice q1.va q1.vn q1.vc] 29)).cell? ⟨w3.heap.size, 2, none⟩ = some (.slice q1.wa q1.wn q1.tc) := at_new _ _ 29 _ 2 _ rfl rfl
          have a3 : (w3.alloc (.cells #[.slice q1.sa q1.sn q1.sc, .slice q1.ra q1.rn q1.rc, .slice q1.wa q1.wn q1.tc, .slice q1.va q1.vn q1.vc] 29)).cell? ⟨w3.heap.size, 3, none⟩ = some (.slice q1.va q1.vn q1.vc) := at_new _ _ 29 _ 3 _ rfl rfl
          clear hbx gA hq1 hbn
          go_upto_region 11 with fail
          generalize w3.alloc (.cells #[.slice q1.sa q1.sn q1.sc, .slice q1.ra q1.rn q1.rc, .slice q1.wa q1.wn q1.tc, .slice q1.va q1.vn q1.vc] 29) = V3 at *
          generalize w3.heap.size = ba at *
          clear C1
          go_wp2_with fail
          refine (C2.out q V3 hBV3.out Hq.out).mono ?_
          rintro e w4 ⟨q2, rfl, hq2, hbx⟩
          have gA : Below w4.heap.size w4 (w4.alloc (.cells #[.slice q2.sa q2.sn q2.sc, .slice q2.ra q2.rn q2.rc, .slice q2.wa q2.wn q2.tc, .slice q2.va q2.vn q2.vc] 29)) := grow_alloc (Below.refl _ _) _
          have hbn : Below V3.heap.size V3 (w4.alloc (.cells #[.slice q2.sa q2.sn q2.sc, .slice q2.ra q2.rn q2.rc, .slice q2.wa q2.wn q2.tc, .slice q2.va q2.vn q2.vc] 29)) := grow_trans hbx gA
          have hBV4 : Hid (Below W.heap.size W (w4.alloc (.cells #[.slice q2.sa q2.sn q2.sc, .slice q2.ra q2.rn q2.rc, .slice q2.wa q2.wn q2.tc, .slice q2.va q2.vn q2.vc] 29))) := grow_trans hBV3.out hbn
          have Hq2 : Hid (StaQ S2 q2 (w4.alloc (.cells #[.slice q2.sa q2.sn q2.sc, .slice q2.ra q2.rn q2.rc, .slice q2.wa q2.wn q2.tc, .slice q2.va q2.vn q2.vc] 29))) := hq2.sta.below gA
          have Hq1 : Hid (StaQ S1 q1 (w4.alloc (.cells #[.slice q2.sa q2.sn q2.sc, .slice q2.ra q2.rn q2.rc, .slice q2.wa q2.wn q2.tc, .slice q2.va q2.vn q2.vc] 29))) := Hq1.out.below hbn
          have p0 := ext_cell hbn p0
          have p1 := ext_cell hbn p1
          have x0 := ext_cell hbn x0
          have x1 := ext_cell hbn x1
          have x2 := ext_cell hbn x2
          have y0 := ext_cell hbn y0
          have y1 := ext_cell hbn y1
          have y2 := ext_cell hbn y2
          have a0 := ext_cell hbn a0
          have a1 := ext_cell hbn a1
          have a2 := ext_cell hbn a2
          have a3 := ext_cell hbn a3
          have b0 : (w4.alloc (.cells #[.slice q2.sa q2.sn q2.sc, .slice q2.ra q2.rn q2.rc, .slice q2.wa q2.wn q2.tc, .slice q2.va q2.vn q2.vc] 29)).cell? ⟨w4.heap.size, 0, none⟩ = some (.slice q2.sa q2.sn q2.sc) := at_new _ _ 29 _ 0 _ rfl rfl
          have b1 : (w4.alloc (.cells #[.slice q2.sa q2.sn q2.sc, .slice q2.ra q2.rn q2.rc, .slice q2.wa q2.wn q2.tc, .slice q2.va q2.vn q2.vc] 29)).cell? ⟨w4.heap.size, 1, none⟩ = some (.slice q2.ra q2.rn q2.rc) := at_new _ _ 29 _ 1 _ rfl rfl
          have b2 : (w4.alloc (.cells #[.slice q2.sa q2.sn q2.sc, .slice q2.ra q2.rn q2.rc, .slice q2.wa q2.wn q2.tc, .slice q2.va q2.vn q2.vc] 29)).cell? ⟨w4.heap.size, 2, none⟩ = some (.slice q2.wa q2.wn q2.tc) := at_new _ _ 29 _ 2 _ rfl rfl
          have b3 : (w4.alloc (.cells #[.slice q2.sa q2.sn q2.sc, .slice q2.ra q2.rn q2.rc, .slice q2.wa q2.wn q2.tc, .slice q2.va q2.vn q2.vc] 29)).cell? ⟨w4.heap.size, 3, none⟩ = some (.slice q2.va q2.vn q2.vc) := at_new _ _ 29 _ 3 _ rfl rfl
          clear hbx gA hq2 hbn
          go_upto_region 12 with fail
          generalize w4.alloc (.cells #[.slice q2.sa q2.sn q2.sc, .slice q2.ra q2.rn q2.rc, .slice q2.wa q2.wn q2.tc, .slice q2.va q2.vn q2.vc] 29) = V4 at *
          generalize w4.heap.size = bb at *
          clear C2 Hq k0 k1 k2 k3
          go_wp2_with fail
          refine (C3.out q1 V4 hBV4.out Hq1.out).mono ?_
          rintro e w5 ⟨q3, rfl, hq3, hbx⟩
          have gA : Below w5.heap.size w5 (w5.alloc (.cells #[.slice q3.sa q3.sn q3.sc, .slice q3.ra q3.rn q3.rc, .slice q3.wa q3.wn q3.tc, .slice q3.va q3.vn q3.vc] 29)) := grow_alloc (Below.refl _ _) _
          have hbn : Below V4.heap.size V4 (w5.alloc (.cells #[.slice q3.sa q3.sn q3.sc, .slice q3.ra q3.rn q3.rc, .slice q3.wa q3.wn q3.tc, .slice q3.va q3.vn q3.vc] 29)) := grow_trans hbx gA
          have hBV5 : Hid (Below W.heap.size W (w5.alloc (.cells #[.slice q3.sa q3.sn q3.sc, .slice q3.ra q3.rn q3.rc, .slice q3.wa q3.wn q3.tc, .slice q3.va q3.vn q3.vc] 29))) := grow_trans hBV4.out hbn
          have Hq3 : Hid (StaQ S3 q3 (w5.alloc (.cells #[.slice q3.sa q3.sn q3.sc, .slice q3.ra q3.rn q3.rc, .slice q3.wa q3.wn q3.tc, .slice q3.va q3.vn q3.vc] 29))) := hq3.sta.below gA
          have Hq2 : Hid (StaQ S2 q2 (w5.alloc (.cells #[.slice q3.sa q3.sn q3.sc, .slice q3.ra q3.rn q3.rc, .slice q3.wa q3.wn q3.tc, .slice q3.va q3.vn q3.vc] 29))) := Hq2.out.below hbn
          have p0 := ext_cell hbn p0
          have p1 := ext_cell hbn p1
          have x0 := ext_cell hbn x0
          have x1 := ext_cell hbn x1
          have x2 := ext_cell hbn x2
          have b0 := ext_cell hbn b0
          have b1 := ext_cell hbn b1
          have b2 := ext_cell hbn b2
          have b3 := ext_cell hbn b3
          have c0 : (w5.alloc (.cells #[.slice q3.sa q3.sn q3.sc, .slice q3.ra q3.rn q3.rc, .slice q3.wa q3.wn q3.tc, .slice q3.va q3.vn q3.vc] 29)).cell? ⟨w5.heap.size, 0, none⟩ = some (.slice q3.sa q3.sn q3.sc) := at_new _ _ 29 _ 0 _ rfl rfl
          have c1 : (w5.alloc (.cells #[.slice q3.sa q3.sn q3.sc, .slice q3.ra q3.rn q3.rc, .slice q3.wa q3.wn q3.tc, .slice q3.va q3.vn q3.vc] 29)).cell? ⟨w5.heap.size, 1, none⟩ = some (.slice q3.ra q3.rn q3.rc) := at_new _ _ 29 _ 1 _ rfl rfl
          have c2 : (w5.alloc (.cells #[.slice q3.sa q3.sn q3.sc, .slice q3.ra q3.rn q3.rc, .slice q3.wa q3.wn q3.tc, .slice q3.va q3.vn q3.vc] 29)).cell? ⟨w5.heap.size, 2, none⟩ = some (.slice q3.wa q3.wn q3.tc) := at_new _ _ 29 _ 2 _ rfl rfl
          have c3 : (w5.alloc (.cells #[.slice q3.sa q3.sn q3.sc, .slice q3.ra q3.rn q3.rc, .slice q3.wa q3.wn q3.tc, .slice q3.va q3.vn q3.vc] 29)).cell? ⟨w5.heap.size, 3, none⟩ = some (.slice q3.va q3.vn q3.vc) := at_new _ _ 29 _ 3 _ rfl rfl
          clear hbx gA hq3 hbn
          go_upto_region 13 with fail
          generalize w5.alloc (.cells #[.slice q3.sa q3.sn q3.sc, .slice q3.ra q3.rn q3.rc, .slice q3.wa q3.wn q3.tc, .slice q3.va q3.vn q3.vc] 29) = V5 at *
          generalize w5.heap.size = bc at *
          clear C3 Hq1 y0 y1 y2 a0 a1 a2 a3
          go_wp2_with fail
          refine (C4.out q2 V5 hBV5.out Hq2.out).mono ?_
          rintro e w6 ⟨q4, rfl, hq4, hbx⟩
          have gA : Below w6.heap.size w6 (w6.alloc (.cells #[.slice q4.sa q4.sn q4.sc, .slice q4.ra q4.rn q4.rc, .slice q4.wa q4.wn q4.tc, .slice q4.va q4.vn q4.vc] 29)) := grow_alloc (Below.refl _ _) _
          have hbn : Below V5.heap.size V5 (w6.alloc (.cells #[.slice q4.sa q4.sn q4.sc, .slice q4.ra q4.rn q4.rc, .slice q4.wa q4.wn q4.tc, .slice q4.va q4.vn q4.vc] 29)) := grow_trans hbx gA
          have hBV6 : Hid (Below W.heap.size W (w6.alloc (.cells #[.slice q4.sa q4.sn q4.sc, .slice q4.ra q4.rn q4.rc, .slice q4.wa q4.wn q4.tc, .slice q4.va q4.vn q4.vc] 29))) := grow_trans hBV5.out hbn
          have Hq4 : Hid (StaQ S3 q4 (w6.alloc (.cells #[.slice q4.sa q4.sn q4.sc, .slice q4.ra q4.rn q4.rc, .slice q4.wa q4.wn q4.tc, .slice q4.va q4.vn q4.vc] 29))) := hq4.sta.below gA
          have Hq3 : Hid (StaQ S3 q3 (w6.alloc (.cells #[.slice q4.sa q4.sn q4.sc, .slice q4.ra q4.rn q4.rc, .slice q4.wa q4.wn q4.tc, .slice q4.va q4.vn q4.vc] 29))) := Hq3.out.below hbn
          have c0 := ext_cell hbn c0
          have c1 := ext_cell hbn c1
          have c2 := ext_cell hbn c2
          have c3 := ext_cell hbn c3
          have d0 : (w6.alloc (.cells #[.slice q4.sa q4.sn q4.sc, .slice q4.ra q4.rn q4.rc, .slice q4.wa q4.wn q4.tc, .slice q4.va q4.vn q4.vc] 29)).cell? ⟨w6.heap.size, 0, none⟩ = some (.slice q4.sa q4.sn q4.sc) := at_new _ _ 29 _ 0 _ rfl rfl
          have d1 : (w6.alloc (.cells #[.slice q4.sa q4.sn q4.sc, .slice q4.ra q4.rn q4.rc, .slice q4.wa q4.wn q4.tc, .slice q4.va q4.vn q4.vc] 29)).cell? ⟨w6.heap.size, 1, none⟩ = some (.slice q4.ra q4.rn q4.rc) := at_new _ _ 29 _ 1 _ rfl rfl
          have d2 : (w6.alloc (.cells #[.slice q4.sa q4.sn q4.sc, .slice q4.ra q4.rn q4.rc, .slice q4.wa q4.wn q4.tc, .slice q4.va q4.vn q4.vc] 29)).cell? ⟨w6.heap.size, 2, none⟩ = some (.slice q4.wa q4.wn q4.tc) := at_new _ _ 29 _ 2 _ rfl rfl
          have d3 : (w6.alloc (.cells #[.slice q4.sa q4.sn q4.sc, .slice q4.ra q4.rn q4.rc, .slice q4.wa q4.wn q4.tc, .slice q4.va q4.vn q4.vc] 29)).cell? ⟨w6.heap.size, 3, none⟩ = some (.slice q4.va q4.vn q4.vc) := at_new _ _ 29 _ 3 _ rfl rfl
          clear hbx gA hq4 hbn
          go_upto_region 14 with fail
          generalize w6.alloc (.cells #[.slice q4.sa q4.sn q4.sc, .slice q4.ra q4.rn q4.rc, .slice q4.wa q4.wn q4.tc, .slice q4.va q4.vn q4.vc] 29) = V6 at *
          generalize w6.heap.size = bd at *
          clear C4 Hq2 x0 x1 x2 b0 b1 b2 b3 p0 p1
          go_wp2_with fail
          refine (HBB.out _).mono ?_
          rintro e w7 ⟨rfl, hbx⟩
          have hB7 : Hid (Below W.heap.size W w7) := grow_trans hBV6.out hbx
          have Hq3 : Hid (StaQ S3 q3 w7) := Hq3.out.below hbx
          have Hq4 : Hid (StaQ S3 q4 w7) := Hq4.out.below hbx
          have c0 := ext_cell hbx c0
          have c1 := ext_cell hbx c1
          have c2 := ext_cell hbx c2
          have c3 := ext_cell hbx c3
          have d0 := ext_cell hbx d0
          have d1 := ext_cell hbx d1
          have d2 := ext_cell hbx d2
          have d3 := ext_cell hbx d3
          clear hbx
          go_wp2_with fail
          refine (CS.out q3 q4 w7 Hq3.out Hq4.out).mono ?_
          rintro e w8 ⟨rfl, hbx⟩
          have B8 : Hid (Below w.heap.size w w8) := grow_trans HG.out (grow_trans hB7.out hbx)
          clear hbx c0 c1 c2 c3 d0 d1 d2 d3
          go_wp2
          go_ret
          exact ⟨rfl, B8.out⟩
end Go.Proofs.YtebjkmknhpgemaaGreat

namespace Go.Proofs.YtebjkmknhpgemaaGreat
open Go.ChangeShapes Go.WideShapes Go.ChangeAt Go.RowKit Go.Deep

set_option maxRecDepth 100000 in
theorem stepsEither_lifted (os : Os) (started : os.Started) (H : Type) (enc : TypeId × Value → H) :
    ReturnsInHanded {} Tryz.checked os 7 .any (Rows.stepsEitherSpec.pre6 enc Tryz.prog Tryz.f7 Rows.stepsEitherRow.domain false) (Rows.stepsEitherSpec.post enc Tryz.prog Tryz.f7 false true false false) := by
  refine returnsInHanded_of_change (C := Tryz.checked) ownK started (by kernel_rfl) Tryz.func7
    (ChangeSpec.witness6 (enc := enc) (C := Tryz.checked) false ⟨#[], #[.agg #[.int .i64 0, .slice none 0 0], .slice none 0 0, .slice none 0 0, .int .i64 0, .int .i64 0], []⟩ 8 (by kernel_rfl) (by kernel_rfl) (by kernel_rfl) (by kernel_rfl)) ?_
  intro W base args ds gs0 before hval0 hW hcnd _
  have hval : ∀ (j : Nat) t v, Tryz.f7.params[j]? = some t → args[j]? = some v → Value.okWide Tryz.prog W .any base t v := hval0
  have hW' := hW
  obtain ⟨p, q, hA0, hV, rfl, hfz, hnd⟩ := hW
  have hA : DataW.TrodAll enc Tryz.prog W 0 (fun _ => true) true Tryz.f7.params.toList args.toList ds p := hA0
  rw [Tryz.params7] at hA hval
  obtain ⟨v0, vs0, d0, ds0, p0, q0, hargs, rfl, rfl, h0, r0⟩ := trodAll_cons hA
  obtain ⟨v1, vs1, d1, ds1, p1, q1, rfl, rfl, rfl, h1, r1⟩ := trodAll_cons r0
  obtain ⟨v2, vs2, d2, ds2, p2, q2, rfl, rfl, rfl, h2, r2⟩ := trodAll_cons r1
  obtain ⟨v3, vs3, d3, ds3, p3, q3, rfl, rfl, rfl, h3, r3⟩ := trodAll_cons r2
  obtain ⟨v4, vs4, d4, ds4, p4, q4, rfl, rfl, rfl, h4, r4⟩ := trodAll_cons r3
  obtain ⟨rfl, rfl, rfl⟩ := trodAll_nil r4
  obtain rfl : args = #[v0, v1, v2, v3, v4] := by cases args; simp_all
  obtain ⟨rfl, rfl⟩ := trodVars_none hV
  have k0 := h0
  have lt0 : ∀ x ∈ p0, x.block < W.heap.size := by obtain ⟨m, hm⟩ := k0; exact DataW.trod_lt m _ _ _ hm
  have k1 := h1
  have lt1 : ∀ x ∈ p1, x.block < W.heap.size := by obtain ⟨m, hm⟩ := k1; exact DataW.trod_lt m _ _ _ hm
  have k2 := h2
  have lt2 : ∀ x ∈ p2, x.block < W.heap.size := by obtain ⟨m, hm⟩ := k2; exact DataW.trod_lt m _ _ _ hm
  have k3 := h3
  have lt3 : ∀ x ∈ p3, x.block < W.heap.size := by obtain ⟨m, hm⟩ := k3; exact DataW.trod_lt m _ _ _ hm
  have k4 := h4
  have lt4 : ∀ x ∈ p4, x.block < W.heap.size := by obtain ⟨m, hm⟩ := k4; exact DataW.trod_lt m _ _ _ hm
  obtain ⟨m0, la0, l0, lc0, rfl, hl0⟩ := open_p (hval 0 24 v0 rfl rfl) h0
  obtain ⟨za1, zs1, zc1, rfl, hzl1, hz1, hzn1⟩ := open_zs (hval 1 25 v1 rfl rfl) h1
  obtain ⟨za2, zs2, zc2, rfl, hzl2, hz2, hzw2⟩ := open_isInts (hval 2 25 v2 rfl rfl) h2
  obtain ⟨n3, rfl, hn3⟩ := open_n (hval 3 3 v3 rfl rfl) h3
  obtain ⟨n4, rfl, hn4⟩ := open_n (hval 4 3 v4 rfl rfl) h4
  clear hA0 hval0
  refine (stepsEither_walk la0 lc0 l0 za1 zc1 zs1 za2 zc2 zs2 m0 n3 n4 W hl0 hz1 hz2 (fun i hi => hzw2 _ (by simp [List.getD, hi])) hn3 hn4).mono fun e W' ⟨he, bel⟩ => ?_
  subst he
  exact ⟨_, rfl, _, _, _, [], _, [], hW', trodAll_mk1 (shut_bool Tryz.underlying4 _), (trodAll_cons_mk (Below.trod laidOutK (by kernel_rfl) (of_decide_eq_true (by kernel_rfl)) k0 bel lt0) (trodAll_cons_mk (Below.trod laidOutK (by kernel_rfl) (of_decide_eq_true (by kernel_rfl)) k1 bel lt1) (trodAll_cons_mk (Below.trod laidOutK (by kernel_rfl) (of_decide_eq_true (by kernel_rfl)) k2 bel lt2) (trodAll_cons_mk (Below.trod laidOutK (by kernel_rfl) (of_decide_eq_true (by kernel_rfl)) k3 bel lt3) (trodAll_cons_mk (Below.trod laidOutK (by kernel_rfl) (of_decide_eq_true (by kernel_rfl)) k4 bel lt4) trodAll_mk0))))), rfl, bel.frame _, fun h => by cases h⟩

set_option maxRecDepth 100000 in
theorem stepsEither_over : Rows.stepsEitherRow.holds Tryz.pinned (OpenSpec.ofChange Rows.stepsEitherSpec) :=
  OpenClaim.holds_of_wide 7 Tryz.f7 rfl rfl rfl rfl rfl rfl rfl ⟨rfl, rfl, rfl, rfl, rfl⟩ rfl rfl rfl rfl rfl (by kernel_rfl) Tryz.func7 (by kernel_rfl)
    (of_decide_eq_true (by kernel_rfl)) (by unfold Func.isWrapper; first | (rw [if_pos (by decide +kernel)]; kernel_rfl) | (rw [if_neg (by decide +kernel)]; exact ⟨rfl, rfl⟩))
    (fun os started H enc _ => stepsEither_lifted os started H enc)

/-- The statement. -/
theorem stepsEither_holds : Rows.StepsEitherSaid := stepsEither_over
#print axioms stepsEither_holds
end Go.Proofs.YtebjkmknhpgemaaGreat
