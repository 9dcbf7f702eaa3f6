/-
  
  Conditions: those that each theorem states.
-/
import Derived.Test.YtebjkmknhpgemaaGreatYPlaceA
import Derived.Test.YtebjkmknhpgemaaGreatYPlaceC
import Derived.WalkKit
import Derived.WalkSpells
import Derived.WalkLawsBesides
import Derived.ProofKit
import Derived.Deep.RegionHeld3
import Derived.BigQuiet
import Derived.Test.YtebjkmknhpgemaaGreatYPlaceB
import Derived.Defers
import Derived.Recover
import Derived.Deep.RegionHeld
import Derived.Deep.RegionLaw
import Derived.Deep.DeepCutAuto
import Derived.Deep.QuietTactic
import Derived.Maps.AppendAt
import Derived.Lib.SliceRun
import Derived.Deep.AppendLies
import Derived.Test.YtebjkmknhpgemaaGreatYTxnB
namespace Go.Proofs.YtebjkmknhpgemaaGreat
/-- A state, as lists: what lies in the keys, who has read, who has written, what was read. -/
structure SA where
  st : List Int
  rd : List (List Bool)
  wr : List (List Bool)
  vs : List (List Int)
/-- Where it has a part, where it is active. -/
def ptL (sh : Nat) (x : TxA) : List Bool := marks sh (keysIn (lkTo x.rs (keysOf x.ss) 8))
def acL (sh : Nat) (x : TxA) : List Bool := marks sh (setsIn (lkTo x.rs (keysOf x.ss) 8))
def ptB (sh : Nat) (x : TxA) (k : Nat) : Bool := (ptL sh x).getD k false
def acB (sh : Nat) (x : TxA) (k : Nat) : Bool := (acL sh x).getD k false
/-- What a list of lists has; and it set. -/
def at2 (R : List (List Bool)) (n k : Nat) : Bool := (R.getD n []).getD k false
def setB (R : List (List Bool)) (n k : Nat) : List (List Bool) := R.set n ((R.getD n []).set k true)
theorem getD_set {α : Type} (l : List α) (i j : Nat) (v d : α) (h : i < l.length) : (l.set i v).getD j d = if i = j then v else l.getD j d := by
  simp only [List.getD, List.getElem?_set]
  by_cases e : i = j
  · subst e; simp [h]
  · simp [e]
theorem at2_setB {R : List (List Bool)} {n k : Nat} (hn : n < R.length) (hk : k < (R.getD n []).length) (m j : Nat) : at2 (setB R n k) m j = if n = m ∧ k = j then true else at2 R m j := by
  unfold at2 setB
  rw [getD_set R n m _ _ hn]
  by_cases e : n = m
  · subst e
    rw [if_pos rfl, getD_set _ k j _ _ hk]
    by_cases e2 : k = j
    · rw [if_pos e2, if_pos ⟨rfl, e2⟩]
    · rw [if_neg e2, if_neg (fun h => e2 h.2)]
  · rw [if_neg e, if_neg (fun h => e h.1)]
theorem setB_len (R : List (List Bool)) (n k : Nat) : (setB R n k).length = R.length := by simp [setB]
theorem setB_row (R : List (List Bool)) (n k m : Nat) : ((setB R n k).getD m []).length = (R.getD m []).length := by
  unfold setB
  by_cases hn : n < R.length
  · rw [getD_set R n m _ _ hn]
    by_cases e : n = m
    · subst e; simp
    · rw [if_neg e]
  · rw [List.set_eq_of_length_le (by omega)]
/-- Has it read at all its parts? Is it gone? Is one ahead in its way? May the step be? -/
def allRd (sh : Nat) (l : List TxA) (S : SA) (n : Nat) : Bool := (List.range sh).all fun k => !ptB sh (gX l n) k || at2 S.rd n k
def goneB (sh : Nat) (l : List TxA) (S : SA) (n k : Nat) : Bool := if ptB sh (gX l n) k then (if acB sh (gX l n) k then at2 S.wr n k else at2 S.rd n k) else true
def clK (sh : Nat) (x y : TxA) (k : Nat) : Bool := (List.range 8).any fun c => c % sh == k && clashAt x y c
def blkTo (sh : Nat) (l : List TxA) (S : SA) (n k m : Nat) : Bool := (List.range m).any fun a => !goneB sh l S a k && clK sh (gX l a) (gX l n) k
def blkB (sh : Nat) (l : List TxA) (S : SA) (n k : Nat) : Bool := blkTo sh l S n k n
def hasB (sh : Nat) (l : List TxA) (kind n k : Nat) : Bool := if kind = 2 then acB sh (gX l n) k else ptB sh (gX l n) k
def doneB (S : SA) (kind n k : Nat) : Bool := if kind = 2 then at2 S.wr n k else at2 S.rd n k
def freeB (sh : Nat) (l : List TxA) (S : SA) (kind n k : Nat) : Bool := if kind = 2 then allRd sh l S n else !blkB sh l S n k
def mayB (sh : Nat) (l : List TxA) (S : SA) (kind n k : Nat) : Bool := hasB sh l kind n k && !doneB S kind n k && freeB sh l S kind n k
theorem allRd_iff {sh : Nat} {l : List TxA} {S : SA} {n : Nat} : allRd sh l S n = true ↔ ∀ k, k < sh → ptB sh (gX l n) k = true → at2 S.rd n k = true := by
  unfold allRd
  rw [List.all_eq_true]
  constructor
  · intro h k hk hp
    have := h k (List.mem_range.2 hk)
    rw [hp] at this
    simpa using this
  · intro h k hk
    have := h k (List.mem_range.1 hk)
    cases hp : ptB sh (gX l n) k
    · simp
    · simp [this hp]
theorem clK_iff {sh : Nat} {x y : TxA} {k : Nat} : clK sh x y k = true ↔ ∃ c, c < 8 ∧ c % sh = k ∧ clashAt x y c = true := by
  unfold clK
  rw [List.any_eq_true]
  constructor
  · rintro ⟨c, hc, h⟩
    simp only [Bool.and_eq_true, beq_iff_eq] at h
    exact ⟨c, List.mem_range.1 hc, h.1, h.2⟩
  · rintro ⟨c, hc, h1, h2⟩
    exact ⟨c, List.mem_range.2 hc, by simp [h1, h2]⟩
theorem blkB_false {sh : Nat} {l : List TxA} {S : SA} {n k : Nat} : blkB sh l S n k = false ↔ ∀ a, a < n → clK sh (gX l a) (gX l n) k = true → goneB sh l S a k = true := by
  unfold blkB blkTo
  rw [← Bool.not_eq_true, List.any_eq_true]
  constructor
  · intro h a ha hc
    cases hg : goneB sh l S a k with
    | true => rfl
    | false => exact absurd ⟨a, List.mem_range.2 ha, by simp [hg, hc]⟩ h
  · rintro h ⟨a, ha, hc⟩
    simp only [Bool.and_eq_true, Bool.not_eq_true'] at hc
    rw [h a (List.mem_range.1 ha) hc.2] at hc
    exact absurd hc.1 (by simp)
/-- Is a state as it must be? -/
def formB (sh : Nat) (l : List TxA) (S : SA) : Bool := decide (S.st.length = 8) && decide (S.rd.length = l.length) && decide (S.wr.length = l.length) && decide (S.vs.length = l.length) && (List.range l.length).all fun n => decide ((S.rd.getD n []).length = sh) && decide ((S.wr.getD n []).length = sh) && decide ((S.vs.getD n []).length = (gX l n).rs.length)
def truthB (sh : Nat) (l : List TxA) (S : SA) : Bool := (List.range l.length).all fun n => (List.range sh).all fun k => (!at2 S.rd n k || ptB sh (gX l n) k) && (!at2 S.wr n k || (acB sh (gX l n) k && allRd sh l S n))
structure Form (sh : Nat) (l : List TxA) (S : SA) : Prop where
  st : S.st.length = 8
  rd : S.rd.length = l.length
  wr : S.wr.length = l.length
  vs : S.vs.length = l.length
  rn : ∀ n, n < l.length → (S.rd.getD n []).length = sh
  wn : ∀ n, n < l.length → (S.wr.getD n []).length = sh
  vn : ∀ n, n < l.length → (S.vs.getD n []).length = (gX l n).rs.length
structure Truth (sh : Nat) (l : List TxA) (S : SA) : Prop where
  r : ∀ n k, n < l.length → k < sh → at2 S.rd n k = true → ptB sh (gX l n) k = true
  w : ∀ n k, n < l.length → k < sh → at2 S.wr n k = true → acB sh (gX l n) k = true ∧ allRd sh l S n = true
theorem formB_iff {sh : Nat} {l : List TxA} {S : SA} : formB sh l S = true ↔ Form sh l S := by
  unfold formB
  simp only [Bool.and_eq_true, decide_eq_true_eq, List.all_eq_true, List.mem_range]
  constructor
  · rintro ⟨⟨⟨⟨h1, h2⟩, h3⟩, h4⟩, h5⟩
    exact ⟨h1, h2, h3, h4, fun n hn => (h5 n hn).1.1, fun n hn => (h5 n hn).1.2, fun n hn => (h5 n hn).2⟩
  · intro h
    exact ⟨⟨⟨⟨h.st, h.rd⟩, h.wr⟩, h.vs⟩, fun n hn => ⟨⟨h.rn n hn, h.wn n hn⟩, h.vn n hn⟩⟩
theorem truthB_iff {sh : Nat} {l : List TxA} {S : SA} : truthB sh l S = true ↔ Truth sh l S := by
  unfold truthB
  simp only [Bool.and_eq_true, List.all_eq_true, List.mem_range, Bool.or_eq_true, Bool.not_eq_true']
  constructor
  · intro h
    refine ⟨fun n k hn hk hr => ?_, fun n k hn hk hw => ?_⟩
    · rcases (h n hn k hk).1 with h1 | h1
      · rw [hr] at h1; cases h1
      · exact h1
    · rcases (h n hn k hk).2 with h1 | h1
      · rw [hw] at h1; cases h1
      · exact h1
  · intro h n hn k hk
    refine ⟨?_, ?_⟩
    · cases e : at2 S.rd n k
      · exact .inl rfl
      · exact .inr (h.r n k hn hk e)
    · cases e : at2 S.wr n k
      · exact .inl rfl
      · exact .inr (h.w n k hn hk e)
def stE (m : Int) (l : List TxA) (S : SA) : Int := if planE m l = 0 then (if formB m.toNat l S && truthB m.toNat l S then 0 else 1) else planE m l
/-- What was read, where it lies at the shard; what is set, where it lies at the shard. -/
def mixV (sh k : Nat) (s : List Int) : List Int → List Int → List Int
  | r :: rs, v :: vs => (if r.toNat % sh = k then getAt s r else v) :: mixV sh k s rs vs
  | _, vs => vs
def putSh (sh k : Nat) : List Int → List Int → List Int → List Int
  | s, key :: ks, v :: vs => putSh sh k (if key.toNat % sh = k then s.set key.toNat v else s) ks vs
  | s, _, _ => s
def readX (sh : Nat) (l : List TxA) (S : SA) (n k : Nat) : SA := { S with rd := setB S.rd n k, vs := S.vs.set n (mixV sh k S.st (gX l n).rs (S.vs.getD n [])) }
def writeX (sh : Nat) (l : List TxA) (S : SA) (n k : Nat) : SA := { S with wr := setB S.wr n k, st := putSh sh k S.st (keysOf (gX l n).ss) (madeOf (S.vs.getD n []) (gX l n).gs (gX l n).ss) }
def doX (sh : Nat) (l : List TxA) (S : SA) (kind n k : Nat) : SA := if kind = 2 then writeX sh l S n k else readX sh l S n k
theorem mixV_len (sh k : Nat) (s : List Int) : ∀ (rs vs : List Int), (mixV sh k s rs vs).length = vs.length
  | [], vs => by cases vs <;> rfl
  | r :: rs, [] => rfl
  | r :: rs, v :: vs => by simp [mixV, mixV_len sh k s rs vs]
theorem putSh_len (sh k : Nat) : ∀ (ks s vs : List Int), (putSh sh k s ks vs).length = s.length
  | [], s, vs => by cases vs <;> rfl
  | key :: ks, s, [] => rfl
  | key :: ks, s, v :: vs => by
    rw [putSh, putSh_len sh k ks]
    by_cases h : key.toNat % sh = k
    · rw [if_pos h]; simp
    · rw [if_neg h]
/-- All steps that may be, in their order. -/
def canR (sh : Nat) (l : List TxA) (S : SA) (kind n : Nat) (j : Nat) : List (Nat × Nat × Nat) := ((List.range j).filter (mayB sh l S kind n)).map fun k => (kind, n, k)
def canT (sh : Nat) (l : List TxA) (S : SA) (kind : Nat) (m : Nat) : List (Nat × Nat × Nat) := (List.range m).flatMap fun n => canR sh l S kind n sh
def canK (sh : Nat) (l : List TxA) (S : SA) (kind : Nat) : List (Nat × Nat × Nat) := canT sh l S kind l.length
def canL (sh : Nat) (l : List TxA) (S : SA) : List (Nat × Nat × Nat) := canK sh l S 1 ++ canK sh l S 2
theorem canR_step (sh : Nat) (l : List TxA) (S : SA) (kind n j : Nat) : canR sh l S kind n (j + 1) = canR sh l S kind n j ++ (if mayB sh l S kind n j then [(kind, n, j)] else []) := by
  unfold canR
  rw [List.range_succ, List.filter_append, List.map_append]
  cases h : mayB sh l S kind n j <;> simp [h]
theorem canT_step (sh : Nat) (l : List TxA) (S : SA) (kind m : Nat) : canT sh l S kind (m + 1) = canT sh l S kind m ++ canR sh l S kind m sh := by
  unfold canT
  rw [List.range_succ, List.flatMap_append]
  simp
theorem canR_len (sh : Nat) (l : List TxA) (S : SA) (kind n j : Nat) : (canR sh l S kind n j).length ≤ j := by
  unfold canR
  rw [List.length_map]
  exact Nat.le_trans (List.length_filter_le _ _) (by simp)
theorem canT_len (sh : Nat) (l : List TxA) (S : SA) (kind : Nat) : ∀ m, (canT sh l S kind m).length ≤ m * sh
  | 0 => by simp [canT]
  | m + 1 => by
    have h1 := canT_len sh l S kind m
    have h2 := canR_len sh l S kind m sh
    rw [canT_step, List.length_append, Nat.succ_mul]
    omega
def overTo (sh : Nat) (l : List TxA) (S : SA) (n : Nat) : Bool := (List.range n).all fun m => (List.range sh).all fun k => goneB sh l S m k
def overB (sh : Nat) (l : List TxA) (S : SA) : Bool := overTo sh l S l.length
/-- The error of a step. -/
def stepE (sh : Nat) (l : List TxA) (S : SA) (kind n k : Int) : Int :=
  if kind = 1 ∨ kind = 2 then
    if n < 0 ∨ (l.length : Int) ≤ n ∨ k < 0 ∨ (sh : Int) ≤ k then 5
    else if hasB sh l kind.toNat n.toNat k.toNat then (if doneB S kind.toNat n.toNat k.toNat then 7 else if freeB sh l S kind.toNat n.toNat k.toNat then 0 else 6)
    else 5
  else 4
end Go.Proofs.YtebjkmknhpgemaaGreat
namespace Go.Proofs.YtebjkmknhpgemaaGreat
open Go.RowKit
/-- Rows of truths, n of them, each of sh truths, that can be read; all lie from block lo on. -/
def IsBR (lo : Nat) (w : World) (a : Option Addr) (n sh : Nat) (F : Nat → Nat → Bool) : Prop :=
  ∀ i, i < n → ∃ b off b' off' c', a = some ⟨b, off, none⟩ ∧ (lo ≤ b ∧ b < w.heap.size) ∧ (lo ≤ b' ∧ b' < w.heap.size) ∧ w.cell? ⟨b, off + i, none⟩ = some (.slice (some ⟨b', off', none⟩) sh c') ∧ ∀ k, k < sh → w.cell? ⟨b', off' + k, none⟩ = some (.bool (F i k))
/-- Rows of values, one for each transaction, as many as it has reads. -/
def IsIR (lo : Nat) (w : World) (a : Option Addr) (l : List TxA) (V : List (List Int)) : Prop :=
  ∀ i, i < l.length → ∃ b off a' c', a = some ⟨b, off, none⟩ ∧ (lo ≤ b ∧ b < w.heap.size) ∧ w.cell? ⟨b, off + i, none⟩ = some (.slice a' (gX l i).rs.length c') ∧ (V.getD i []).length = (gX l i).rs.length ∧ IsInts w a' (V.getD i []) ∧ (∀ ad, a' = some ad → lo ≤ ad.block) ∧ (a' = none → c' = 0)
/-- Rows of locks, one for each transaction. -/
def lkX (x : TxA) : List (Int × Bool) := lkTo x.rs (keysOf x.ss) 8
def IsLR (lo : Nat) (w : World) (a : Option Addr) (l : List TxA) : Prop :=
  ∀ i, i < l.length → ∃ b off a' c', a = some ⟨b, off, none⟩ ∧ (lo ≤ b ∧ b < w.heap.size) ∧ w.cell? ⟨b, off + i, none⟩ = some (.slice a' (lkX (gX l i)).length c') ∧ IsLks w a' (lkX (gX l i)) ∧ (∀ ad, a' = some ad → lo ≤ ad.block)
theorem IsBR.below {lo : Nat} {w w' : World} {a : Option Addr} {n sh : Nat} {F : Nat → Nat → Bool} (h : IsBR lo w a n sh F) (hb : Below w.heap.size w w') : IsBR lo w' a n sh F := fun i hi => by
  obtain ⟨b, off, b', off', c', e, h1, h2, h3, h4⟩ := h i hi
  exact ⟨b, off, b', off', c', e, ⟨h1.1, Nat.lt_of_lt_of_le h1.2 hb.size⟩, ⟨h2.1, Nat.lt_of_lt_of_le h2.2 hb.size⟩, ext_cell hb h3, fun k hk => ext_cell hb (h4 k hk)⟩
theorem IsIR.below {lo : Nat} {w w' : World} {a : Option Addr} {l : List TxA} {V : List (List Int)} (h : IsIR lo w a l V) (hb : Below w.heap.size w w') : IsIR lo w' a l V := fun i hi => by
  obtain ⟨b, off, a', c', e, h1, h2, h3, h4, h5⟩ := h i hi
  exact ⟨b, off, a', c', e, ⟨h1.1, Nat.lt_of_lt_of_le h1.2 hb.size⟩, ext_cell hb h2, h3, h4.below hb, h5⟩
theorem IsLR.below {lo : Nat} {w w' : World} {a : Option Addr} {l : List TxA} (h : IsLR lo w a l) (hb : Below w.heap.size w w') : IsLR lo w' a l := fun i hi => by
  obtain ⟨b, off, a', c', e, h1, h2, h3, h4⟩ := h i hi
  exact ⟨b, off, a', c', e, ⟨h1.1, Nat.lt_of_lt_of_le h1.2 hb.size⟩, ext_cell hb h2, h3.below hb, h4⟩
/-- Where a hall's lists lie. -/
structure HA where
  p : Nat
  la : Option Addr
  sa : Option Addr
  ra : Option Addr
  wa : Option Addr
  va : Option Addr
  pa : Option Addr
  qa : Option Addr
  ka : Option Addr
  lc : Nat
  sc : Nat
  rc : Nat
  wc : Nat
  vc : Nat
  pc : Nat
  qc : Nat
  kc : Nat
/-- A hall that can be read, whose lists are as long as they must be. -/
structure Hall (w : World) (h sh : Nat) (l : List TxA) (S : SA) (A : HA) : Prop where
  h0 : w.cell? ⟨h, 0, none⟩ = some (.pointer (some ⟨A.p, 0, none⟩))
  h1 : w.cell? ⟨h, 1, none⟩ = some (.slice A.sa 8 A.sc)
  h2 : w.cell? ⟨h, 2, none⟩ = some (.slice A.ra l.length A.rc)
  h3 : w.cell? ⟨h, 3, none⟩ = some (.slice A.wa l.length A.wc)
  h4 : w.cell? ⟨h, 4, none⟩ = some (.slice A.va l.length A.vc)
  h5 : w.cell? ⟨h, 5, none⟩ = some (.slice A.pa l.length A.pc)
  h6 : w.cell? ⟨h, 6, none⟩ = some (.slice A.qa l.length A.qc)
  h7 : w.cell? ⟨h, 7, none⟩ = some (.slice A.ka l.length A.kc)
  p0 : w.cell? ⟨A.p, 0, none⟩ = some (.int .i64 sh)
  p1 : w.cell? ⟨A.p, 1, none⟩ = some (.slice A.la l.length A.lc)
  tx : IsTxs w A.la l
  s8 : S.st.length = 8
  st : IsInts w A.sa S.st
  rd : IsBR 0 w A.ra l.length sh (at2 S.rd)
  wr : IsBR 0 w A.wa l.length sh (at2 S.wr)
  vs : IsIR 0 w A.va l S.vs
  pt : IsBR (h + 1) w A.pa l.length sh (fun n k => ptB sh (gX l n) k)
  ac : IsBR (h + 1) w A.qa l.length sh (fun n k => acB sh (gX l n) k)
  lk : IsLR (h + 1) w A.ka l
  s0 : 0 < sh
  s4 : sh ≤ 4
  l8 : l.length ≤ 8
theorem Hall.below {w w' : World} {h sh : Nat} {l : List TxA} {S : SA} {A : HA} (H : Hall w h sh l S A) (hb : Below w.heap.size w w') : Hall w' h sh l S A :=
  ⟨ext_cell hb H.h0, ext_cell hb H.h1, ext_cell hb H.h2, ext_cell hb H.h3, ext_cell hb H.h4, ext_cell hb H.h5, ext_cell hb H.h6, ext_cell hb H.h7, ext_cell hb H.p0, ext_cell hb H.p1, H.tx.below hb, H.s8, H.st.below hb, H.rd.below hb, H.wr.below hb, H.vs.below hb, H.pt.below hb, H.ac.below hb, H.lk.below hb, H.s0, H.s4, H.l8⟩
/-- What a walk wants of a row of truths at one place. -/
theorem br_at {lo : Nat} {w : World} {h j : Nat} {a : Option Addr} {N c sh : Nat} {F : Nat → Nat → Bool} (hc : w.cell? ⟨h, j, none⟩ = some (.slice a N c)) (H : IsBR lo w a N sh F) {n k : Nat} (hn : n < N) (hk : k < sh) :
    ∃ b off b' off' c', w.cell? ⟨h, j, none⟩ = some (.slice (some ⟨b, off, none⟩) N c) ∧ w.cell? ⟨b, off + n, none⟩ = some (.slice (some ⟨b', off', none⟩) sh c') ∧ w.cell? ⟨b', off' + k, none⟩ = some (.bool (F n k)) := by
  obtain ⟨b, off, b', off', c', e, _, _, h3, h4⟩ := H n hn
  exact ⟨b, off, b', off', c', by rw [hc, e], h3, h4 k hk⟩
theorem br_row {lo : Nat} {w : World} {h j : Nat} {a : Option Addr} {N c sh : Nat} {F : Nat → Nat → Bool} (hc : w.cell? ⟨h, j, none⟩ = some (.slice a N c)) (H : IsBR lo w a N sh F) {n : Nat} (hn : n < N) :
    ∃ b off b' off' c', w.cell? ⟨h, j, none⟩ = some (.slice (some ⟨b, off, none⟩) N c) ∧ w.cell? ⟨b, off + n, none⟩ = some (.slice (some ⟨b', off', none⟩) sh c') ∧ ∀ k, k < sh → w.cell? ⟨b', off' + k, none⟩ = some (.bool (F n k)) := by
  obtain ⟨b, off, b', off', c', e, _, _, h3, h4⟩ := H n hn
  exact ⟨b, off, b', off', c', by rw [hc, e], h3, h4⟩
variable {w : World} {h sh : Nat} {l : List TxA} {S : SA} {A : HA}
set_option maxRecDepth 100000 in
set_option maxHeartbeats 1000000 in
theorem gone_any (H : Hall w h sh l S A) {n k : Nat} (hn : n < l.length) (hk : k < sh) :
    Calls Tryz.prog 50 #[.pointer (some ⟨h, 0, none⟩), .int .i64 n, .int .i64 k] w fun e w' => e = .returned (.bool (goneB sh l S n k)) ∧ w' = w := by
  obtain ⟨b1, o1, b1', o1', c1, x1, y1, z1⟩ := br_at H.h5 H.pt hn hk
  obtain ⟨b2, o2, b2', o2', c2, x2, y2, z2⟩ := br_at H.h6 H.ac hn hk
  obtain ⟨b3, o3, b3', o3', c3, x3, y3, z3⟩ := br_at H.h3 H.wr hn hk
  obtain ⟨b4, o4, b4', o4', c4, x4, y4, z4⟩ := br_at H.h2 H.rd hn hk
  have hl8 := H.l8
  have hs4 := H.s4
  unfold goneB
  clear H
  generalize ptB sh (gX l n) k = P at *
  generalize acB sh (gX l n) k = Q at *
  generalize at2 S.wr n k = X at *
  generalize at2 S.rd n k = Y at *
  go_enter Tryz.func50, Tryz.ntmps50
  cases P
  · go_wp2
    go_ret
    exact ⟨rfl, rfl⟩
  · cases Q
    · go_wp2
      go_ret
      exact ⟨rfl, rfl⟩
    · go_wp2
      go_ret
      exact ⟨rfl, rfl⟩
theorem all_to (f : Nat → Bool) (j : Nat) : (List.range (j + 1)).all f = ((List.range j).all f && f j) := by
  rw [List.range_succ, List.all_append]; simp
theorem all_stop {f : Nat → Bool} {j n : Nat} (hj : j < n) (h : f j = false) : (List.range n).all f = false := by
  rw [List.all_eq_false]
  exact ⟨j, List.mem_range.2 hj, by simp [h]⟩
theorem any_to (f : Nat → Bool) (j : Nat) : (List.range (j + 1)).any f = ((List.range j).any f || f j) := by
  rw [List.range_succ, List.any_append]; simp
theorem any_stop {f : Nat → Bool} {j n : Nat} (hj : j < n) (h : f j = true) : (List.range n).any f = true := by
  rw [List.any_eq_true]
  exact ⟨j, List.mem_range.2 hj, h⟩
set_option maxRecDepth 100000 in
set_option maxHeartbeats 1000000 in
theorem readAll_any (H : Hall w h sh l S A) {n : Nat} (hn : n < l.length) :
    Calls Tryz.prog 132 #[.pointer (some ⟨h, 0, none⟩), .int .i64 n] w fun e w' => e = .returned (.bool (allRd sh l S n)) ∧ w' = w := by
  obtain ⟨b1, o1, b1', o1', c1, x1, y1, z1⟩ := br_row H.h5 H.pt hn
  obtain ⟨b4, o4, b4', o4', c4, x4, y4, z4⟩ := br_row H.h2 H.rd hn
  have hl8 := H.l8
  have hs4 := H.s4
  have Z1 : Hid (∀ k, k < sh → w.cell? ⟨b1', o1' + k, none⟩ = some (.bool (ptB sh (gX l n) k))) := z1
  have Z4 : Hid (∀ k, k < sh → w.cell? ⟨b4', o4' + k, none⟩ = some (.bool (at2 S.rd n k))) := z4
  clear H z1 z4
  go_enter Tryz.func132, Tryz.ntmps132
  go_wp2
  go_loop [5, 6, 15] (fun _ _ i => ∃ k : Nat, k ≤ sh ∧ i = .int .i64 k ∧ Hid ((List.range k).all (fun k => !ptB sh (gX l n) k || at2 S.rd n k) = true)) (fun _ _ i => sh - (intOf i).toNat)
  case atStart => exact ⟨0, Nat.zero_le _, rfl, rfl⟩
  case round =>
    obtain ⟨k, hk, rfl, hall⟩ := hrel
    by_cases hlt : k < sh
    · have d1 := Z1.out k hlt
      have d4 := Z4.out k hlt
      have hstep : Hid ((List.range (k + 1)).all (fun k => !ptB sh (gX l n) k || at2 S.rd n k) = (!ptB sh (gX l n) k || at2 S.rd n k)) := by
        show _ = _
        rw [all_to, hall.out, Bool.true_and]
      have hstop : Hid ((!ptB sh (gX l n) k || at2 S.rd n k) = false → allRd sh l S n = false) := fun e => all_stop hlt e
      clear hall
      generalize ptB sh (gX l n) k = P at *
      generalize at2 S.rd n k = Y at *
      cases P
      · go_wp2
        go_round
        case rel => exact ⟨k + 1, by omega, by go_num, hstep.out⟩
        case measure => simp [intOf]; omega
      · cases Y
        · have hF : Hid (allRd sh l S n = false) := hstop.out rfl
          clear hstop hstep
          go_wp2
          go_ret
          exact ⟨by rw [hF.out]; rfl, rfl⟩
        · go_wp2
          go_round
          case rel => exact ⟨k + 1, by omega, by go_num, hstep.out⟩
          case measure => simp [intOf]; omega
    · have hT : Hid (allRd sh l S n = true) := by
        have : k = sh := by omega
        subst this
        exact hall.out
      clear hall
      go_wp2
      go_ret
      exact ⟨by rw [hT.out]; rfl, rfl⟩
end Go.Proofs.YtebjkmknhpgemaaGreat
namespace Go.Proofs.YtebjkmknhpgemaaGreat
/-- What a step that may be makes of a state that is as it must be. -/
theorem mayB_parts {sh : Nat} {l : List TxA} {S : SA} {kind n k : Nat} (h : mayB sh l S kind n k = true) : hasB sh l kind n k = true ∧ doneB S kind n k = false ∧ freeB sh l S kind n k = true := by
  unfold mayB at h
  simp only [Bool.and_eq_true, Bool.not_eq_true'] at h
  exact ⟨h.1.1, h.1.2, h.2⟩
theorem mayB_of {sh : Nat} {l : List TxA} {S : SA} {kind n k : Nat} (h1 : hasB sh l kind n k = true) (h2 : doneB S kind n k = false) (h3 : freeB sh l S kind n k = true) : mayB sh l S kind n k = true := by
  unfold mayB
  simp [h1, h2, h3]
theorem form_read {sh : Nat} {l : List TxA} {S : SA} {n k : Nat} (h : Form sh l S) (hn : n < l.length) : Form sh l (readX sh l S n k) := by
  refine ⟨h.st, ?_, h.wr, ?_, fun m hm => ?_, h.wn, fun m hm => ?_⟩
  · show (setB S.rd n k).length = _
    rw [setB_len]; exact h.rd
  · show (S.vs.set n _).length = _
    rw [List.length_set]; exact h.vs
  · show ((setB S.rd n k).getD m []).length = _
    rw [setB_row]; exact h.rn m hm
  · show ((S.vs.set n _).getD m []).length = _
    rw [getD_set _ _ _ _ _ (by rw [h.vs]; exact hn)]
    by_cases e : n = m
    · subst e
      rw [if_pos rfl, mixV_len]; exact h.vn n hn
    · rw [if_neg e]; exact h.vn m hm
theorem form_write {sh : Nat} {l : List TxA} {S : SA} {n k : Nat} (h : Form sh l S) : Form sh l (writeX sh l S n k) := by
  refine ⟨?_, h.rd, ?_, h.vs, h.rn, fun m hm => ?_, h.vn⟩
  · show (putSh _ _ _ _ _).length = _
    rw [putSh_len]; exact h.st
  · show (setB S.wr n k).length = _
    rw [setB_len]; exact h.wr
  · show ((setB S.wr n k).getD m []).length = _
    rw [setB_row]; exact h.wn m hm
theorem rd_read {sh : Nat} {l : List TxA} {S : SA} {n k : Nat} (h : Form sh l S) (hn : n < l.length) (hk : k < sh) (m j : Nat) : at2 (readX sh l S n k).rd m j = if n = m ∧ k = j then true else at2 S.rd m j :=
  at2_setB (by rw [h.rd]; exact hn) (by rw [h.rn n hn]; exact hk) m j
theorem wr_write {sh : Nat} {l : List TxA} {S : SA} {n k : Nat} (h : Form sh l S) (hn : n < l.length) (hk : k < sh) (m j : Nat) : at2 (writeX sh l S n k).wr m j = if n = m ∧ k = j then true else at2 S.wr m j :=
  at2_setB (by rw [h.wr]; exact hn) (by rw [h.wn n hn]; exact hk) m j
theorem rd_up {sh : Nat} {l : List TxA} {S : SA} {n k : Nat} (h : Form sh l S) (hn : n < l.length) (hk : k < sh) {m j : Nat} (hr : at2 S.rd m j = true) : at2 (readX sh l S n k).rd m j = true := by
  rw [rd_read h hn hk]; split <;> first | rfl | exact hr
theorem wr_up {sh : Nat} {l : List TxA} {S : SA} {n k : Nat} (h : Form sh l S) (hn : n < l.length) (hk : k < sh) {m j : Nat} (hr : at2 S.wr m j = true) : at2 (writeX sh l S n k).wr m j = true := by
  rw [wr_write h hn hk]; split <;> first | rfl | exact hr
theorem allRd_read {sh : Nat} {l : List TxA} {S : SA} {n k : Nat} (h : Form sh l S) (hn : n < l.length) (hk : k < sh) {m : Nat} (hr : allRd sh l S m = true) : allRd sh l (readX sh l S n k) m = true :=
  allRd_iff.2 fun j hj hp => rd_up h hn hk (allRd_iff.1 hr j hj hp)
theorem truth_read {sh : Nat} {l : List TxA} {S : SA} {n k : Nat} (h : Form sh l S) (t : Truth sh l S) (hn : n < l.length) (hk : k < sh) (hp : ptB sh (gX l n) k = true) : Truth sh l (readX sh l S n k) := by
  refine ⟨fun m j hm hj hr => ?_, fun m j hm hj hw => ?_⟩
  · rw [rd_read h hn hk] at hr
    by_cases e : n = m ∧ k = j
    · obtain ⟨rfl, rfl⟩ := e; exact hp
    · rw [if_neg e] at hr; exact t.r m j hm hj hr
  · obtain ⟨h1, h2⟩ := t.w m j hm hj hw
    exact ⟨h1, allRd_read h hn hk h2⟩
theorem truth_write {sh : Nat} {l : List TxA} {S : SA} {n k : Nat} (h : Form sh l S) (t : Truth sh l S) (hn : n < l.length) (hk : k < sh) (ha : acB sh (gX l n) k = true) (hr : allRd sh l S n = true) : Truth sh l (writeX sh l S n k) := by
  refine ⟨t.r, fun m j hm hj hw => ?_⟩
  rw [wr_write h hn hk] at hw
  by_cases e : n = m ∧ k = j
  · obtain ⟨rfl, rfl⟩ := e; exact ⟨ha, hr⟩
  · rw [if_neg e] at hw; exact t.w m j hm hj hw
theorem may_read {sh : Nat} {l : List TxA} {S : SA} {n k : Nat} (h : mayB sh l S 1 n k = true) : ptB sh (gX l n) k = true ∧ at2 S.rd n k = false ∧ blkB sh l S n k = false := by
  obtain ⟨h1, h2, h3⟩ := mayB_parts h
  exact ⟨h1, h2, by simpa [freeB] using h3⟩
theorem may_write {sh : Nat} {l : List TxA} {S : SA} {n k : Nat} (h : mayB sh l S 2 n k = true) : acB sh (gX l n) k = true ∧ at2 S.wr n k = false ∧ allRd sh l S n = true := mayB_parts h
theorem do_form {sh : Nat} {l : List TxA} {S : SA} {kind n k : Nat} (h : Form sh l S) (hn : n < l.length) : Form sh l (doX sh l S kind n k) := by
  unfold doX
  split
  · exact form_write h
  · exact form_read h hn
theorem do_truth {sh : Nat} {l : List TxA} {S : SA} {kind n k : Nat} (hkd : kind = 1 ∨ kind = 2) (h : Form sh l S) (t : Truth sh l S) (hn : n < l.length) (hk : k < sh) (hm : mayB sh l S kind n k = true) : Truth sh l (doX sh l S kind n k) := by
  rcases hkd with rfl | rfl
  · exact truth_read h t hn hk (may_read hm).1
  · exact truth_write h t hn hk (may_write hm).1 (may_write hm).2.2
/-- How many steps were done. -/
def c1 (f : Nat → Bool) : Nat → Nat
  | 0 => 0
  | j + 1 => c1 f j + (if f j then 1 else 0)
def c2 (f : Nat → Nat → Bool) (sh : Nat) : Nat → Nat
  | 0 => 0
  | n + 1 => c2 f sh n + c1 (f n) sh
/-- What holds wherever picks have led to: what was read, and what lies there, is what lies there one after the other. -/
def serAt (s0 : List Int) (l : List TxA) (n : Nat) : List Int := serEnd s0 (l.take n)
structure Inv (sh : Nat) (l : List TxA) (s0 : List Int) (S : SA) : Prop where
  f : Form sh l S
  t : Truth sh l S
  ahead : ∀ n k, n < l.length → k < sh → at2 S.rd n k = true → ∀ m, m < n → clK sh (gX l m) (gX l n) k = true → goneB sh l S m k = true
  vals : ∀ n k, n < l.length → k < sh → at2 S.rd n k = true → ∀ i, i < (gX l n).rs.length → ((gX l n).rs.getD i 0).toNat % sh = k → (S.vs.getD n []).getD i 0 = getAt (serAt s0 l n) ((gX l n).rs.getD i 0)
  store : ∀ c j, c < 8 → j ≤ l.length → (∀ n, n < l.length → wrX (gX l n) c = true → (at2 S.wr n (c % sh) = true ↔ n < j)) → S.st.getD c 0 = (serAt s0 l j).getD c 0
theorem wrX_key {x : TxA} {c : Nat} (g : Good x) : wrX x c = true ↔ ∃ key ∈ keysOf x.ss, key.toNat = c := by
  unfold wrX
  rw [decide_eq_true_eq]
  constructor
  · intro h; exact ⟨_, h, by omega⟩
  · rintro ⟨key, hk, e⟩
    have := g.s key hk
    have : (c : Int) = key := by omega
    rw [this]; exact hk
theorem gone_up_read {sh : Nat} {l : List TxA} {S : SA} {n k m j : Nat} (h : Form sh l S) (hn : n < l.length) (hk : k < sh) (hg : goneB sh l S m j = true) : goneB sh l (readX sh l S n k) m j = true := by
  unfold goneB at hg ⊢
  cases hp : ptB sh (gX l m) j
  · rfl
  · rw [hp, if_pos rfl] at hg
    rw [if_pos rfl]
    cases ha : acB sh (gX l m) j
    · rw [ha] at hg; exact rd_up h hn hk hg
    · rw [ha] at hg; exact hg
theorem gone_up_write {sh : Nat} {l : List TxA} {S : SA} {n k m j : Nat} (h : Form sh l S) (hn : n < l.length) (hk : k < sh) (hg : goneB sh l S m j = true) : goneB sh l (writeX sh l S n k) m j = true := by
  unfold goneB at hg ⊢
  cases hp : ptB sh (gX l m) j
  · rfl
  · rw [hp, if_pos rfl] at hg
    rw [if_pos rfl]
    cases ha : acB sh (gX l m) j
    · rw [ha] at hg; exact hg
    · rw [ha] at hg; exact wr_up h hn hk hg
/-- The beginning. -/
def begX (sh : Nat) (l : List TxA) (s : List Int) : SA := ⟨s, l.map fun _ => List.replicate sh false, l.map fun _ => List.replicate sh false, l.map fun x => List.replicate x.rs.length 0⟩
theorem at2_beg (sh : Nat) (l : List TxA) (n k : Nat) : at2 (l.map fun _ => List.replicate sh false) n k = false := by
  unfold at2
  simp only [List.getD, List.getElem?_map]
  cases l[n]? with
  | none => rfl
  | some x => simp [List.getElem?_replicate]; split <;> rfl
theorem inv_beg (sh : Nat) (l : List TxA) (s : List Int) (h8 : s.length = 8) (hg : ∀ n, n < l.length → Good (gX l n)) : Inv sh l s (begX sh l s) := by
  have hr : ∀ n k, at2 (begX sh l s).rd n k = false := at2_beg sh l
  have hw : ∀ n k, at2 (begX sh l s).wr n k = false := at2_beg sh l
  refine ⟨⟨h8, by simp [begX], by simp [begX], by simp [begX], fun n hn => ?_, fun n hn => ?_, fun n hn => ?_⟩, ⟨fun n k _ _ h => ?_, fun n k _ _ h => ?_⟩, fun n k _ _ h => ?_, fun n k _ _ h => ?_, fun c j _ hj h => ?_⟩
  · simp [begX, List.getD, hn]
  · simp [begX, List.getD, hn]
  · simp [begX, gX, List.getD, hn]
  · rw [hr] at h; cases h
  · rw [hw] at h; cases h
  · rw [hr] at h; cases h
  · rw [hr] at h; cases h
  · show s.getD c 0 = _
    unfold serAt
    have : ∀ j, j ≤ l.length → (∀ n, n < l.length → wrX (gX l n) c = true → ¬ n < j) → (serEnd s (l.take j)).getD c 0 = s.getD c 0 := by
      intro j
      induction j with
      | zero => intro _ _; rfl
      | succ j ih =>
        intro hj hh
        rw [serEnd_step s l j (by omega)]
        have hno : wrX (gX l j) c = false := by
          cases e : wrX (gX l j) c with
          | false => rfl
          | true => exact absurd (Nat.lt_succ_self j) (hh j (by omega) e)
        unfold aEnd
        rw [putAll_far _ _ _ _ (fun key hk ek => ?_)]
        · exact ih (by omega) fun n hn hwn hlt => hh n hn hwn (by omega)
        · rw [(wrX_key (hg j (by omega))).2 ⟨key, hk, ek⟩] at hno; cases hno
    rw [this j hj fun n hn hwn hlt => by
      have := (h n hn hwn).2 hlt
      rw [hw] at this; cases this]
/-- What still may be, behind another step. -/
theorem still {sh : Nat} {l : List TxA} {S : SA} (f : Form sh l S) {kx n k ky m j : Nat} (hkx : kx = 1 ∨ kx = 2) (hky : ky = 1 ∨ ky = 2) (hn : n < l.length) (hk : k < sh) (hy : mayB sh l S ky m j = true) (hne : ¬ (kx = ky ∧ n = m ∧ k = j)) : mayB sh l (doX sh l S kx n k) ky m j = true := by
  rcases hkx with rfl | rfl <;> rcases hky with rfl | rfl
  · obtain ⟨h1, h2, h3⟩ := may_read hy
    refine mayB_of h1 ?_ ?_
    · show at2 (readX sh l S n k).rd m j = false
      rw [rd_read f hn hk, if_neg (fun e => hne ⟨rfl, e.1, e.2⟩)]; exact h2
    · have : blkB sh l (readX sh l S n k) m j = false := blkB_false.2 fun a ha hc => gone_up_read f hn hk (blkB_false.1 h3 a ha hc)
      show freeB sh l (readX sh l S n k) 1 m j = true
      simp [freeB, this]
  · obtain ⟨h1, h2, h3⟩ := may_write hy
    exact mayB_of (kind := 2) h1 h2 (allRd_read f hn hk h3)
  · obtain ⟨h1, h2, h3⟩ := may_read hy
    refine mayB_of h1 h2 ?_
    have : blkB sh l (writeX sh l S n k) m j = false := blkB_false.2 fun a ha hc => gone_up_write f hn hk (blkB_false.1 h3 a ha hc)
    show freeB sh l (writeX sh l S n k) 1 m j = true
    simp [freeB, this]
  · obtain ⟨h1, h2, h3⟩ := may_write hy
    refine mayB_of (kind := 2) h1 ?_ h3
    show at2 (writeX sh l S n k).wr m j = false
    rw [wr_write f hn hk, if_neg (fun e => hne ⟨rfl, e.1, e.2⟩)]; exact h2
end Go.Proofs.YtebjkmknhpgemaaGreat
namespace Go.Proofs.YtebjkmknhpgemaaGreat
open Go.RowKit
variable (x y : TxA)
def clTo (sh : Nat) (x y : TxA) (kk n : Nat) : Bool := (List.range n).any fun c => c % sh == kk && clashAt x y c
theorem clTo_step (sh : Nat) (x y : TxA) (kk n : Nat) : clTo sh x y kk (n + 1) = (clTo sh x y kk n || (n % sh == kk && clashAt x y n)) := by
  unfold clTo
  rw [List.range_succ, List.any_append]
  simp
theorem rd_is (x : TxA) (k : Nat) (b : Bool) (h : rdX x k = b) : decide ((k : Int) ∈ x.rs) = b := h
theorem wr_is (x : TxA) (k : Nat) (b : Bool) (h : wrX x k = b) : decide ((k : Int) ∈ keysOf x.ss) = b := h
set_option maxRecDepth 100000 in
set_option maxHeartbeats 4000000 in
theorem docClash_sh (sh kk : Nat) (h0 : 0 < sh) (hs4 : sh ≤ 4) (w : World) (hx : IsX w x) (hy : IsX w y) :
    Calls Tryz.prog 107 #[.agg #[.slice x.ra x.rs.length x.rc, .slice x.ga x.gs.length x.gc, .slice x.sa x.ss.length x.sc], .agg #[.slice y.ra y.rs.length y.rc, .slice y.ga y.gs.length y.gc, .slice y.sa y.ss.length y.sc], .int .i64 sh, .int .i64 kk] w fun e w' => e = .returned (.bool (clK sh x y kk)) ∧ Below w.heap.size w w' := by
  have HS : Hid (∀ k, clTo sh x y kk (k + 1) = (clTo sh x y kk k || (k % sh == kk && clashAt x y k))) := clTo_step sh x y kk
  have HA : Hid (∀ k, clashAt x y k = ((wrX x k && (rdX y k || wrX y k)) || (wrX y k && rdX x k))) := fun k => rfl
  have HF : Hid (clK sh x y kk = clTo sh x y kk 8) := rfl
  have HD : Hid (∀ k, clTo sh x y kk k = true → k ≤ 8 → clK sh x y kk = true) := fun k h hk => by
    unfold clK clTo at *
    rw [List.any_eq_true] at *
    obtain ⟨j, hj, hc⟩ := h
    exact ⟨j, List.mem_range.2 (by have := List.mem_range.1 hj; omega), hc⟩
  have R1 : Hid (∀ k b, rdX x k = b → decide ((k : Int) ∈ x.rs) = b) := rd_is x
  have W1 : Hid (∀ k b, wrX x k = b → decide ((k : Int) ∈ keysOf x.ss) = b) := wr_is x
  have R2 : Hid (∀ k b, rdX y k = b → decide ((k : Int) ∈ y.rs) = b) := rd_is y
  have W2 : Hid (∀ k b, wrX y k = b → decide ((k : Int) ∈ keysOf y.ss) = b) := wr_is y
  have H0 : Hid (clTo sh x y kk 0 = false) := rfl
  generalize clK sh x y kk = CX at *
  generalize hct : clTo sh x y kk = ct at *
  generalize hca : clashAt x y = ca at *
  clear hct hca
  generalize rdX x = rx at *
  generalize wrX x = wx at *
  generalize rdX y = ry at *
  generalize wrX y = wy at *
  obtain ⟨ra, ga, sa, rc, gc, sc, rs, gs, ss⟩ := x
  obtain ⟨ra', ga', sa', rc', gc', sc', rs', gs', ss'⟩ := y
  simp only at R1 W1 R2 W2
  have HX : Hid (IsTx w ra ga sa rs gs ss) := hx.t
  have HY : Hid (IsTx w ra' ga' sa' rs' gs' ss') := hy.t
  clear hx hy
  have g1 : Below w.heap.size w ((w.alloc (.cells #[.slice ra rs.length rc, .slice ga gs.length gc, .slice sa ss.length sc] 79)).alloc (.cells #[.slice ra' rs'.length rc', .slice ga' gs'.length gc', .slice sa' ss'.length sc'] 79)) := grow_alloc (grow_alloc (Below.refl _ _) _) _
  have p0 : ((w.alloc (.cells #[.slice ra rs.length rc, .slice ga gs.length gc, .slice sa ss.length sc] 79)).alloc (.cells #[.slice ra' rs'.length rc', .slice ga' gs'.length gc', .slice sa' ss'.length sc'] 79)).cell? ⟨w.heap.size, 0, none⟩ = some (.slice ra rs.length rc) := by rw [World.cell?_alloc_lt _ _ _ (by simp)]; simp
  have p1 : ((w.alloc (.cells #[.slice ra rs.length rc, .slice ga gs.length gc, .slice sa ss.length sc] 79)).alloc (.cells #[.slice ra' rs'.length rc', .slice ga' gs'.length gc', .slice sa' ss'.length sc'] 79)).cell? ⟨w.heap.size, 1, none⟩ = some (.slice ga gs.length gc) := by rw [World.cell?_alloc_lt _ _ _ (by simp)]; simp
  have p2 : ((w.alloc (.cells #[.slice ra rs.length rc, .slice ga gs.length gc, .slice sa ss.length sc] 79)).alloc (.cells #[.slice ra' rs'.length rc', .slice ga' gs'.length gc', .slice sa' ss'.length sc'] 79)).cell? ⟨w.heap.size, 2, none⟩ = some (.slice sa ss.length sc) := by rw [World.cell?_alloc_lt _ _ _ (by simp)]; simp
  have q0 : ((w.alloc (.cells #[.slice ra rs.length rc, .slice ga gs.length gc, .slice sa ss.length sc] 79)).alloc (.cells #[.slice ra' rs'.length rc', .slice ga' gs'.length gc', .slice sa' ss'.length sc'] 79)).cell? ⟨w.heap.size + 1, 0, none⟩ = some (.slice ra' rs'.length rc') := by simp
  have q1 : ((w.alloc (.cells #[.slice ra rs.length rc, .slice ga gs.length gc, .slice sa ss.length sc] 79)).alloc (.cells #[.slice ra' rs'.length rc', .slice ga' gs'.length gc', .slice sa' ss'.length sc'] 79)).cell? ⟨w.heap.size + 1, 1, none⟩ = some (.slice ga' gs'.length gc') := by simp
  have q2 : ((w.alloc (.cells #[.slice ra rs.length rc, .slice ga gs.length gc, .slice sa ss.length sc] 79)).alloc (.cells #[.slice ra' rs'.length rc', .slice ga' gs'.length gc', .slice sa' ss'.length sc'] 79)).cell? ⟨w.heap.size + 1, 2, none⟩ = some (.slice sa' ss'.length sc') := by simp
  go_enter Tryz.func107, Tryz.ntmps107
  go_wp2
  have G1 : Hid (Below w.heap.size w ((w.alloc (.cells #[.slice ra rs.length rc, .slice ga gs.length gc, .slice sa ss.length sc] 79)).alloc (.cells #[.slice ra' rs'.length rc', .slice ga' gs'.length gc', .slice sa' ss'.length sc'] 79))) := g1
  clear g1
  generalize (w.alloc (.cells #[.slice ra rs.length rc, .slice ga gs.length gc, .slice sa ss.length sc] 79)).alloc (.cells #[.slice ra' rs'.length rc', .slice ga' gs'.length gc', .slice sa' ss'.length sc'] 79) = V at *
  go_loopw [9] (fun i wr => ∃ k : Nat, k ≤ 8 ∧ i = .int .i64 k ∧ Hid (ct k = false) ∧ Hid (Below V.heap.size V wr)) (fun i _ => 8 - (intOf i).toNat)
  case atStart => exact ⟨0, Nat.zero_le _, rfl, H0, Below.refl _ _⟩
  case round =>
    obtain ⟨k, hk, rfl, hC, hB⟩ := hrel
    by_cases hlt : k < 8
    · have p0 := ext_cell hB.out p0
      have p1 := ext_cell hB.out p1
      have p2 := ext_cell hB.out p2
      have q0 := ext_cell hB.out q0
      have q1 := ext_cell hB.out q1
      have q2 := ext_cell hB.out q2
      by_cases hat : k % sh = kk
      rotate_left
      · have HR : Hid (ct (k + 1) = false) := by
          show _ = _
          rw [HS.out, hC.out]
          have e : (k % sh == kk) = false := by simpa using hat
          rw [e]
          rfl
        have hm : ((k : Int) % (sh : Int) != (kk : Int)) = true := by
          rw [bne_iff_ne]
          intro e
          exact hat (by omega)
        clear p0 p1 p2 q0 q1 q2 HS HA HF hC HD R1 R2 W1 W2 hat
        go_wp2
        go_roundw
        case rel => exact ⟨k + 1, by omega, by go_num, HR, hB⟩
        case measure => simp [intOf]; omega
      have HT : Hid (ct (k + 1) = ca k) := by
        show _ = _
        rw [HS.out, hC.out]
        have e : (k % sh == kk) = true := by simpa using hat
        rw [e]
        rfl
      have HAk := HA.out k
      have hm : ((k : Int) % (sh : Int) != (kk : Int)) = false := by
        rw [bne_eq_false_iff_eq]
        omega
      clear hat
      have BW : Hid (Below w.heap.size w wr) := grow_trans G1.out hB.out
      have HXr : Hid (IsTx wr ra ga sa rs gs ss) := HX.out.below BW.out
      have HYr : Hid (IsTx wr ra' ga' sa' rs' gs' ss') := HY.out.below BW.out
      clear HS HA HF hC BW
      cases hwx : wx k with
      | true =>
        go_wp2_with fail
        refine (writes_any ra ga sa rc gc sc rs gs ss k _ HXr.out).mono ?_
        rintro e V1 ⟨rfl, hw1⟩
        rw [W1.out k _ hwx]
        have b1 : Below wr.heap.size wr V1 := by rw [hw1]; exact grow_alloc (Below.refl _ _) _
        clear hw1
        have p0 := ext_cell b1 p0
        have p1 := ext_cell b1 p1
        have p2 := ext_cell b1 p2
        have q0 := ext_cell b1 q0
        have q1 := ext_cell b1 q1
        have q2 := ext_cell b1 q2
        have HXr : Hid (IsTx V1 ra ga sa rs gs ss) := HXr.out.below b1
        have HYr : Hid (IsTx V1 ra' ga' sa' rs' gs' ss') := HYr.out.below b1
        have hB : Hid (Below V.heap.size V V1) := grow_trans hB.out b1
        clear b1
        cases hry : ry k with
        | true =>
          go_wp2_with fail
          refine (reads_any ra' ga' sa' rc' gc' sc' rs' gs' ss' k _ HYr.out).mono ?_
          rintro e V2 ⟨rfl, hw2⟩
          rw [R2.out k _ hry]
          have b2 : Below V1.heap.size V1 V2 := by rw [hw2]; exact grow_alloc (Below.refl _ _) _
          clear hw2
          have p0 := ext_cell b2 p0
          have p1 := ext_cell b2 p1
          have p2 := ext_cell b2 p2
          have q0 := ext_cell b2 q0
          have q1 := ext_cell b2 q1
          have q2 := ext_cell b2 q2
          have HXr : Hid (IsTx V2 ra ga sa rs gs ss) := HXr.out.below b2
          have HYr : Hid (IsTx V2 ra' ga' sa' rs' gs' ss') := HYr.out.below b2
          have hB : Hid (Below V.heap.size V V2) := grow_trans hB.out b2
          clear b2
          have HR : Hid (CX = true) := HD.out (k + 1) (by rw [HT.out, HAk]; simp [hwx, hry]) (by omega)
          have RB : Hid (Below w.heap.size w V2) := grow_trans G1.out hB.out
          clear p0 p1 p2 q0 q1 q2 HAk HT HXr HYr
          go_wp2
          go_ret
          exact ⟨by rw [HR.out]; rfl, RB.out⟩
        | false =>
          go_wp2_with fail
          refine (reads_any ra' ga' sa' rc' gc' sc' rs' gs' ss' k _ HYr.out).mono ?_
          rintro e V3 ⟨rfl, hw3⟩
          rw [R2.out k _ hry]
          have b3 : Below V1.heap.size V1 V3 := by rw [hw3]; exact grow_alloc (Below.refl _ _) _
          clear hw3
          have p0 := ext_cell b3 p0
          have p1 := ext_cell b3 p1
          have p2 := ext_cell b3 p2
          have q0 := ext_cell b3 q0
          have q1 := ext_cell b3 q1
          have q2 := ext_cell b3 q2
          have HXr : Hid (IsTx V3 ra ga sa rs gs ss) := HXr.out.below b3
          have HYr : Hid (IsTx V3 ra' ga' sa' rs' gs' ss') := HYr.out.below b3
          have hB : Hid (Below V.heap.size V V3) := grow_trans hB.out b3
          clear b3
          cases hwy : wy k with
          | true =>
            go_wp2_with fail
            refine (writes_any ra' ga' sa' rc' gc' sc' rs' gs' ss' k _ HYr.out).mono ?_
            rintro e V4 ⟨rfl, hw4⟩
            rw [W2.out k _ hwy]
            have b4 : Below V3.heap.size V3 V4 := by rw [hw4]; exact grow_alloc (Below.refl _ _) _
            clear hw4
            have p0 := ext_cell b4 p0
            have p1 := ext_cell b4 p1
            have p2 := ext_cell b4 p2
            have q0 := ext_cell b4 q0
            have q1 := ext_cell b4 q1
            have q2 := ext_cell b4 q2
            have HXr : Hid (IsTx V4 ra ga sa rs gs ss) := HXr.out.below b4
            have HYr : Hid (IsTx V4 ra' ga' sa' rs' gs' ss') := HYr.out.below b4
            have hB : Hid (Below V.heap.size V V4) := grow_trans hB.out b4
            clear b4
            have HR : Hid (CX = true) := HD.out (k + 1) (by rw [HT.out, HAk]; simp [hwx, hry, hwy]) (by omega)
            have RB : Hid (Below w.heap.size w V4) := grow_trans G1.out hB.out
            clear p0 p1 p2 q0 q1 q2 HAk HT HXr HYr
            go_wp2
            go_ret
            exact ⟨by rw [HR.out]; rfl, RB.out⟩
          | false =>
            go_wp2_with fail
            refine (writes_any ra' ga' sa' rc' gc' sc' rs' gs' ss' k _ HYr.out).mono ?_
            rintro e V5 ⟨rfl, hw5⟩
            rw [W2.out k _ hwy]
            have b5 : Below V3.heap.size V3 V5 := by rw [hw5]; exact grow_alloc (Below.refl _ _) _
            clear hw5
            have p0 := ext_cell b5 p0
            have p1 := ext_cell b5 p1
            have p2 := ext_cell b5 p2
            have q0 := ext_cell b5 q0
            have q1 := ext_cell b5 q1
            have q2 := ext_cell b5 q2
            have HXr : Hid (IsTx V5 ra ga sa rs gs ss) := HXr.out.below b5
            have HYr : Hid (IsTx V5 ra' ga' sa' rs' gs' ss') := HYr.out.below b5
            have hB : Hid (Below V.heap.size V V5) := grow_trans hB.out b5
            clear b5
            go_wp2_with fail
            refine (writes_any ra' ga' sa' rc' gc' sc' rs' gs' ss' k _ HYr.out).mono ?_
            rintro e V6 ⟨rfl, hw6⟩
            rw [W2.out k _ hwy]
            have b6 : Below V5.heap.size V5 V6 := by rw [hw6]; exact grow_alloc (Below.refl _ _) _
            clear hw6
            have p0 := ext_cell b6 p0
            have p1 := ext_cell b6 p1
            have p2 := ext_cell b6 p2
            have q0 := ext_cell b6 q0
            have q1 := ext_cell b6 q1
            have q2 := ext_cell b6 q2
            have HXr : Hid (IsTx V6 ra ga sa rs gs ss) := HXr.out.below b6
            have HYr : Hid (IsTx V6 ra' ga' sa' rs' gs' ss') := HYr.out.below b6
            have hB : Hid (Below V.heap.size V V6) := grow_trans hB.out b6
            clear b6
            have HR : Hid (ct (k + 1) = false) := by show _ = _; rw [HT.out, HAk]; simp [hwx, hry, hwy]
            clear p0 p1 p2 q0 q1 q2 HAk HT HXr HYr
            go_wp2
            go_roundw
            case rel => exact ⟨k + 1, by omega, by go_num, HR, hB⟩
            case measure => simp [intOf]; omega
      | false =>
        go_wp2_with fail
        refine (writes_any ra ga sa rc gc sc rs gs ss k _ HXr.out).mono ?_
        rintro e V7 ⟨rfl, hw7⟩
        rw [W1.out k _ hwx]
        have b7 : Below wr.heap.size wr V7 := by rw [hw7]; exact grow_alloc (Below.refl _ _) _
        clear hw7
        have p0 := ext_cell b7 p0
        have p1 := ext_cell b7 p1
        have p2 := ext_cell b7 p2
        have q0 := ext_cell b7 q0
        have q1 := ext_cell b7 q1
        have q2 := ext_cell b7 q2
        have HXr : Hid (IsTx V7 ra ga sa rs gs ss) := HXr.out.below b7
        have HYr : Hid (IsTx V7 ra' ga' sa' rs' gs' ss') := HYr.out.below b7
        have hB : Hid (Below V.heap.size V V7) := grow_trans hB.out b7
        clear b7
        cases hwy : wy k with
        | true =>
          go_wp2_with fail
          refine (writes_any ra' ga' sa' rc' gc' sc' rs' gs' ss' k _ HYr.out).mono ?_
          rintro e V8 ⟨rfl, hw8⟩
          rw [W2.out k _ hwy]
          have b8 : Below V7.heap.size V7 V8 := by rw [hw8]; exact grow_alloc (Below.refl _ _) _
          clear hw8
          have p0 := ext_cell b8 p0
          have p1 := ext_cell b8 p1
          have p2 := ext_cell b8 p2
          have q0 := ext_cell b8 q0
          have q1 := ext_cell b8 q1
          have q2 := ext_cell b8 q2
          have HXr : Hid (IsTx V8 ra ga sa rs gs ss) := HXr.out.below b8
          have HYr : Hid (IsTx V8 ra' ga' sa' rs' gs' ss') := HYr.out.below b8
          have hB : Hid (Below V.heap.size V V8) := grow_trans hB.out b8
          clear b8
          cases hrx : rx k with
          | true =>
            go_wp2_with fail
            refine (reads_any ra ga sa rc gc sc rs gs ss k _ HXr.out).mono ?_
            rintro e V9 ⟨rfl, hw9⟩
            rw [R1.out k _ hrx]
            have b9 : Below V8.heap.size V8 V9 := by rw [hw9]; exact grow_alloc (Below.refl _ _) _
            clear hw9
            have p0 := ext_cell b9 p0
            have p1 := ext_cell b9 p1
            have p2 := ext_cell b9 p2
            have q0 := ext_cell b9 q0
            have q1 := ext_cell b9 q1
            have q2 := ext_cell b9 q2
            have HXr : Hid (IsTx V9 ra ga sa rs gs ss) := HXr.out.below b9
            have HYr : Hid (IsTx V9 ra' ga' sa' rs' gs' ss') := HYr.out.below b9
            have hB : Hid (Below V.heap.size V V9) := grow_trans hB.out b9
            clear b9
            have HR : Hid (CX = true) := HD.out (k + 1) (by rw [HT.out, HAk]; simp [hwx, hwy, hrx]) (by omega)
            have RB : Hid (Below w.heap.size w V9) := grow_trans G1.out hB.out
            clear p0 p1 p2 q0 q1 q2 HAk HT HXr HYr
            go_wp2
            go_ret
            exact ⟨by rw [HR.out]; rfl, RB.out⟩
          | false =>
            go_wp2_with fail
            refine (reads_any ra ga sa rc gc sc rs gs ss k _ HXr.out).mono ?_
            rintro e V10 ⟨rfl, hw10⟩
            rw [R1.out k _ hrx]
            have b10 : Below V8.heap.size V8 V10 := by rw [hw10]; exact grow_alloc (Below.refl _ _) _
            clear hw10
            have p0 := ext_cell b10 p0
            have p1 := ext_cell b10 p1
            have p2 := ext_cell b10 p2
            have q0 := ext_cell b10 q0
            have q1 := ext_cell b10 q1
            have q2 := ext_cell b10 q2
            have HXr : Hid (IsTx V10 ra ga sa rs gs ss) := HXr.out.below b10
            have HYr : Hid (IsTx V10 ra' ga' sa' rs' gs' ss') := HYr.out.below b10
            have hB : Hid (Below V.heap.size V V10) := grow_trans hB.out b10
            clear b10
            have HR : Hid (ct (k + 1) = false) := by show _ = _; rw [HT.out, HAk]; simp [hwx, hwy, hrx]
            clear p0 p1 p2 q0 q1 q2 HAk HT HXr HYr
            go_wp2
            go_roundw
            case rel => exact ⟨k + 1, by omega, by go_num, HR, hB⟩
            case measure => simp [intOf]; omega
        | false =>
          go_wp2_with fail
          refine (writes_any ra' ga' sa' rc' gc' sc' rs' gs' ss' k _ HYr.out).mono ?_
          rintro e V11 ⟨rfl, hw11⟩
          rw [W2.out k _ hwy]
          have b11 : Below V7.heap.size V7 V11 := by rw [hw11]; exact grow_alloc (Below.refl _ _) _
          clear hw11
          have p0 := ext_cell b11 p0
          have p1 := ext_cell b11 p1
          have p2 := ext_cell b11 p2
          have q0 := ext_cell b11 q0
          have q1 := ext_cell b11 q1
          have q2 := ext_cell b11 q2
          have HXr : Hid (IsTx V11 ra ga sa rs gs ss) := HXr.out.below b11
          have HYr : Hid (IsTx V11 ra' ga' sa' rs' gs' ss') := HYr.out.below b11
          have hB : Hid (Below V.heap.size V V11) := grow_trans hB.out b11
          clear b11
          have HR : Hid (ct (k + 1) = false) := by show _ = _; rw [HT.out, HAk]; simp [hwx, hwy]
          clear p0 p1 p2 q0 q1 q2 HAk HT HXr HYr
          go_wp2
          go_roundw
          case rel => exact ⟨k + 1, by omega, by go_num, HR, hB⟩
          case measure => simp [intOf]; omega
    · have hkk : k = 8 := by omega
      have HR : Hid (CX = false) := by
        have h := hC.out
        rw [hkk] at h
        exact HF.out.trans h
      have RB : Hid (Below w.heap.size w wr) := grow_trans G1.out hB.out
      clear p0 p1 p2 q0 q1 q2 HS HA HF hC
      go_wp2
      go_ret
      exact ⟨by rw [HR.out]; rfl, RB.out⟩
end Go.Proofs.YtebjkmknhpgemaaGreat
