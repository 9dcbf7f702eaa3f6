/-
  Steps, said of lists: parts, who is gone, who is in the way, what may be done, what it makes of a state.
  Conditions: those that each theorem states.
-/
import Derived.Test.YtebjkmknhpgemaaGreatGraphA
import Derived.Test.YtebjkmknhpgemaaGreatPlaceA
import Derived.Test.YtebjkmknhpgemaaGreatPlaceK
namespace Go.Proofs.YtebjkmknhpgemaaGreat

/-- A state, as lists: what lies in the keys, who has read, who has written, what was read. -/
structure SA where
  st : List Int
  rd : List (List Bool)
  wr : List (List Bool)
  vs : List (List Int)

/-- Where it has a part, where it is active. -/
def ptL (sh : Nat) (x : TxA) : List Bool := marks sh (keysIn (lkTo x.rs (keysOf x.ss) 8))
def acL (sh : Nat) (x : TxA) : List Bool := marks sh (setsIn (lkTo x.rs (keysOf x.ss) 8))
def ptB (sh : Nat) (x : TxA) (k : Nat) : Bool := (ptL sh x).getD k false
def acB (sh : Nat) (x : TxA) (k : Nat) : Bool := (acL sh x).getD k false
theorem ptL_len (sh : Nat) (x : TxA) : (ptL sh x).length = sh := marks_len _ _
theorem acL_len (sh : Nat) (x : TxA) : (acL sh x).length = sh := marks_len _ _
theorem ptB_iff {sh : Nat} {x : TxA} {k : Nat} (hk : k < sh) : ptB sh x k = true ↔ ∃ c, c < 8 ∧ hasX x c = true ∧ c % sh = k := by
  unfold ptB ptL
  rw [marks_get sh k hk, keys_any, List.any_eq_true]
  constructor
  · rintro ⟨p, hp, h⟩
    obtain ⟨c, h8, hc, rfl⟩ := (lkX_mem x p).1 hp
    exact ⟨c, h8, hc, by simpa using h⟩
  · rintro ⟨c, h8, hc, h⟩
    exact ⟨_, (lkX_mem x _).2 ⟨c, h8, hc, rfl⟩, by simpa using h⟩
theorem acB_iff {sh : Nat} {x : TxA} {k : Nat} (hk : k < sh) : acB sh x k = true ↔ ∃ c, c < 8 ∧ wrX x c = true ∧ c % sh = k := by
  unfold acB acL
  rw [marks_get sh k hk, sets_any, List.any_eq_true]
  constructor
  · rintro ⟨p, hp, h⟩
    obtain ⟨c, h8, hc, rfl⟩ := (lkX_mem x p).1 hp
    simp only [Bool.and_eq_true] at h
    exact ⟨c, h8, h.2, by simpa using h.1⟩
  · rintro ⟨c, h8, hc, h⟩
    exact ⟨_, (lkX_mem x _).2 ⟨c, h8, by simp [hasX, hc], rfl⟩, by simp [hc, h]⟩
theorem acB_ptB {sh : Nat} {x : TxA} {k : Nat} (hk : k < sh) (h : acB sh x k = true) : ptB sh x k = true := by
  obtain ⟨c, h8, hc, e⟩ := (acB_iff hk).1 h
  exact (ptB_iff hk).2 ⟨c, h8, by simp [hasX, hc], e⟩

/-- What a list of lists has; and it set. -/
def at2 (R : List (List Bool)) (n k : Nat) : Bool := (R.getD n []).getD k false
def setB (R : List (List Bool)) (n k : Nat) : List (List Bool) := R.set n ((R.getD n []).set k true)
theorem getD_set {α : Type} (l : List α) (i j : Nat) (v d : α) (h : i < l.length) : (l.set i v).getD j d = if i = j then v else l.getD j d := by
  simp only [List.getD, List.getElem?_set]
  by_cases e : i = j
  · subst e; simp [h]
  · simp [e]
theorem at2_setB {R : List (List Bool)} {n k : Nat} (hn : n < R.length) (hk : k < (R.getD n []).length) (m j : Nat) : at2 (setB R n k) m j = if n = m ∧ k = j then true else at2 R m j := by
  unfold at2 setB
  rw [getD_set R n m _ _ hn]
  by_cases e : n = m
  · subst e
    rw [if_pos rfl, getD_set _ k j _ _ hk]
    by_cases e2 : k = j
    · rw [if_pos e2, if_pos ⟨rfl, e2⟩]
    · rw [if_neg e2, if_neg (fun h => e2 h.2)]
  · rw [if_neg e, if_neg (fun h => e h.1)]
theorem setB_len (R : List (List Bool)) (n k : Nat) : (setB R n k).length = R.length := by simp [setB]
theorem setB_row (R : List (List Bool)) (n k m : Nat) : ((setB R n k).getD m []).length = (R.getD m []).length := by
  unfold setB
  by_cases hn : n < R.length
  · rw [getD_set R n m _ _ hn]
    by_cases e : n = m
    · subst e; simp
    · rw [if_neg e]
  · rw [List.set_eq_of_length_le (by omega)]

/-- Has it read at all its parts? Is it gone? Is one ahead in its way? May the step be? -/
def allRd (sh : Nat) (l : List TxA) (S : SA) (n : Nat) : Bool := (List.range sh).all fun k => !ptB sh (gX l n) k || at2 S.rd n k
def goneB (sh : Nat) (l : List TxA) (S : SA) (n k : Nat) : Bool := if ptB sh (gX l n) k then (if acB sh (gX l n) k then at2 S.wr n k else at2 S.rd n k) else true
def clK (sh : Nat) (x y : TxA) (k : Nat) : Bool := (List.range 8).any fun c => c % sh == k && clashAt x y c
def blkTo (sh : Nat) (l : List TxA) (S : SA) (n k m : Nat) : Bool := (List.range m).any fun a => !goneB sh l S a k && clK sh (gX l a) (gX l n) k
def blkB (sh : Nat) (l : List TxA) (S : SA) (n k : Nat) : Bool := blkTo sh l S n k n
def hasB (sh : Nat) (l : List TxA) (kind n k : Nat) : Bool := if kind = 2 then acB sh (gX l n) k else ptB sh (gX l n) k
def doneB (S : SA) (kind n k : Nat) : Bool := if kind = 2 then at2 S.wr n k else at2 S.rd n k
def freeB (sh : Nat) (l : List TxA) (S : SA) (kind n k : Nat) : Bool := if kind = 2 then allRd sh l S n else !blkB sh l S n k
def mayB (sh : Nat) (l : List TxA) (S : SA) (kind n k : Nat) : Bool := hasB sh l kind n k && !doneB S kind n k && freeB sh l S kind n k
theorem allRd_iff {sh : Nat} {l : List TxA} {S : SA} {n : Nat} : allRd sh l S n = true ↔ ∀ k, k < sh → ptB sh (gX l n) k = true → at2 S.rd n k = true := by
  unfold allRd
  rw [List.all_eq_true]
  constructor
  · intro h k hk hp
    have := h k (List.mem_range.2 hk)
    rw [hp] at this
    simpa using this
  · intro h k hk
    have := h k (List.mem_range.1 hk)
    cases hp : ptB sh (gX l n) k
    · simp
    · simp [this hp]
theorem clK_iff {sh : Nat} {x y : TxA} {k : Nat} : clK sh x y k = true ↔ ∃ c, c < 8 ∧ c % sh = k ∧ clashAt x y c = true := by
  unfold clK
  rw [List.any_eq_true]
  constructor
  · rintro ⟨c, hc, h⟩
    simp only [Bool.and_eq_true, beq_iff_eq] at h
    exact ⟨c, List.mem_range.1 hc, h.1, h.2⟩
  · rintro ⟨c, hc, h1, h2⟩
    exact ⟨c, List.mem_range.2 hc, by simp [h1, h2]⟩
theorem blkB_false {sh : Nat} {l : List TxA} {S : SA} {n k : Nat} : blkB sh l S n k = false ↔ ∀ a, a < n → clK sh (gX l a) (gX l n) k = true → goneB sh l S a k = true := by
  unfold blkB blkTo
  rw [← Bool.not_eq_true, List.any_eq_true]
  constructor
  · intro h a ha hc
    cases hg : goneB sh l S a k with
    | true => rfl
    | false => exact absurd ⟨a, List.mem_range.2 ha, by simp [hg, hc]⟩ h
  · rintro h ⟨a, ha, hc⟩
    simp only [Bool.and_eq_true, Bool.not_eq_true'] at hc
    rw [h a (List.mem_range.1 ha) hc.2] at hc
    exact absurd hc.1 (by simp)

/-- Is a state as it must be? -/
def formB (sh : Nat) (l : List TxA) (S : SA) : Bool := decide (S.st.length = 8) && decide (S.rd.length = l.length) && decide (S.wr.length = l.length) && decide (S.vs.length = l.length) && (List.range l.length).all fun n => decide ((S.rd.getD n []).length = sh) && decide ((S.wr.getD n []).length = sh) && decide ((S.vs.getD n []).length = (gX l n).rs.length)
def truthB (sh : Nat) (l : List TxA) (S : SA) : Bool := (List.range l.length).all fun n => (List.range sh).all fun k => (!at2 S.rd n k || ptB sh (gX l n) k) && (!at2 S.wr n k || (acB sh (gX l n) k && allRd sh l S n))
structure Form (sh : Nat) (l : List TxA) (S : SA) : Prop where
  st : S.st.length = 8
  rd : S.rd.length = l.length
  wr : S.wr.length = l.length
  vs : S.vs.length = l.length
  rn : ∀ n, n < l.length → (S.rd.getD n []).length = sh
  wn : ∀ n, n < l.length → (S.wr.getD n []).length = sh
  vn : ∀ n, n < l.length → (S.vs.getD n []).length = (gX l n).rs.length
structure Truth (sh : Nat) (l : List TxA) (S : SA) : Prop where
  r : ∀ n k, n < l.length → k < sh → at2 S.rd n k = true → ptB sh (gX l n) k = true
  w : ∀ n k, n < l.length → k < sh → at2 S.wr n k = true → acB sh (gX l n) k = true ∧ allRd sh l S n = true
theorem formB_iff {sh : Nat} {l : List TxA} {S : SA} : formB sh l S = true ↔ Form sh l S := by
  unfold formB
  simp only [Bool.and_eq_true, decide_eq_true_eq, List.all_eq_true, List.mem_range]
  constructor
  · rintro ⟨⟨⟨⟨h1, h2⟩, h3⟩, h4⟩, h5⟩
    exact ⟨h1, h2, h3, h4, fun n hn => (h5 n hn).1.1, fun n hn => (h5 n hn).1.2, fun n hn => (h5 n hn).2⟩
  · intro h
    exact ⟨⟨⟨⟨h.st, h.rd⟩, h.wr⟩, h.vs⟩, fun n hn => ⟨⟨h.rn n hn, h.wn n hn⟩, h.vn n hn⟩⟩
theorem truthB_iff {sh : Nat} {l : List TxA} {S : SA} : truthB sh l S = true ↔ Truth sh l S := by
  unfold truthB
  simp only [Bool.and_eq_true, List.all_eq_true, List.mem_range, Bool.or_eq_true, Bool.not_eq_true']
  constructor
  · intro h
    refine ⟨fun n k hn hk hr => ?_, fun n k hn hk hw => ?_⟩
    · rcases (h n hn k hk).1 with h1 | h1
      · rw [hr] at h1; cases h1
      · exact h1
    · rcases (h n hn k hk).2 with h1 | h1
      · rw [hw] at h1; cases h1
      · exact h1
  · intro h n hn k hk
    refine ⟨?_, ?_⟩
    · cases e : at2 S.rd n k
      · exact .inl rfl
      · exact .inr (h.r n k hn hk e)
    · cases e : at2 S.wr n k
      · exact .inl rfl
      · exact .inr (h.w n k hn hk e)
def stE (m : Int) (l : List TxA) (S : SA) : Int := if planE m l = 0 then (if formB m.toNat l S && truthB m.toNat l S then 0 else 1) else planE m l

/-- What was read, where it lies at the shard; what is set, where it lies at the shard. -/
def mixV (sh k : Nat) (s : List Int) : List Int → List Int → List Int
  | r :: rs, v :: vs => (if r.toNat % sh = k then getAt s r else v) :: mixV sh k s rs vs
  | _, vs => vs
def putSh (sh k : Nat) : List Int → List Int → List Int → List Int
  | s, key :: ks, v :: vs => putSh sh k (if key.toNat % sh = k then s.set key.toNat v else s) ks vs
  | s, _, _ => s
def readX (sh : Nat) (l : List TxA) (S : SA) (n k : Nat) : SA := { S with rd := setB S.rd n k, vs := S.vs.set n (mixV sh k S.st (gX l n).rs (S.vs.getD n [])) }
def writeX (sh : Nat) (l : List TxA) (S : SA) (n k : Nat) : SA := { S with wr := setB S.wr n k, st := putSh sh k S.st (keysOf (gX l n).ss) (madeOf (S.vs.getD n []) (gX l n).gs (gX l n).ss) }
def doX (sh : Nat) (l : List TxA) (S : SA) (kind n k : Nat) : SA := if kind = 2 then writeX sh l S n k else readX sh l S n k
theorem mixV_len (sh k : Nat) (s : List Int) : ∀ (rs vs : List Int), (mixV sh k s rs vs).length = vs.length
  | [], vs => by cases vs <;> rfl
  | r :: rs, [] => rfl
  | r :: rs, v :: vs => by simp [mixV, mixV_len sh k s rs vs]
theorem mixV_get (sh k : Nat) (s : List Int) : ∀ (rs vs : List Int) (i : Nat), i < rs.length → i < vs.length → (mixV sh k s rs vs).getD i 0 = if (rs.getD i 0).toNat % sh = k then getAt s (rs.getD i 0) else vs.getD i 0
  | [], _, i, h, _ => by simp at h
  | r :: rs, [], i, _, h => by simp at h
  | r :: rs, v :: vs, 0, _, _ => by simp [mixV]
  | r :: rs, v :: vs, i + 1, h, h' => by
    have := mixV_get sh k s rs vs i (by simpa using h) (by simpa using h')
    simpa [mixV] using this
theorem putSh_len (sh k : Nat) : ∀ (ks s vs : List Int), (putSh sh k s ks vs).length = s.length
  | [], s, vs => by cases vs <;> rfl
  | key :: ks, s, [] => rfl
  | key :: ks, s, v :: vs => by
    rw [putSh, putSh_len sh k ks]
    by_cases h : key.toNat % sh = k
    · rw [if_pos h]; simp
    · rw [if_neg h]
theorem putSh_far (sh k c : Nat) : ∀ (ks s vs : List Int), (∀ key ∈ ks, key.toNat % sh = k → key.toNat ≠ c) → (putSh sh k s ks vs).getD c 0 = s.getD c 0
  | [], s, vs, _ => by cases vs <;> rfl
  | key :: ks, s, [], _ => rfl
  | key :: ks, s, v :: vs, h => by
    rw [putSh, putSh_far sh k c ks _ vs (fun k' hk => h k' (List.mem_cons_of_mem _ hk))]
    by_cases e : key.toNat % sh = k
    · rw [if_pos e, getD_set_ne _ _ _ _ (h key List.mem_cons_self e)]
    · rw [if_neg e]
theorem putSh_at (sh k c : Nat) (hc : c % sh = k) : ∀ (ks s s' vs : List Int), s.length = s'.length → s.getD c 0 = s'.getD c 0 → (putSh sh k s ks vs).getD c 0 = (putAll s' ks vs).getD c 0
  | [], s, s', vs, _, h => by cases vs <;> exact h
  | key :: ks, s, s', [], _, h => h
  | key :: ks, s, s', v :: vs, hl, h => by
    rw [putSh, putAll]
    by_cases e : key.toNat % sh = k
    · rw [if_pos e]
      refine putSh_at sh k c hc ks _ _ vs (by simpa using hl) ?_
      by_cases ec : key.toNat = c
      · subst ec
        simp only [List.getD, List.getElem?_set, hl]
        by_cases hh : key.toNat < s'.length
        · simp [hh]
        · simp [hh]
      · rw [getD_set_ne _ _ _ _ ec, getD_set_ne _ _ _ _ ec, h]
    · rw [if_neg e]
      refine putSh_at sh k c hc ks _ _ vs (by simpa using hl) ?_
      have ec : key.toNat ≠ c := fun ec => e (by rw [ec]; exact hc)
      rw [getD_set_ne _ _ _ _ ec, h]
/-- If one of the keys is set, what lay there does not matter. -/
theorem putAll_hit : ∀ (ks s s' vs : List Int) (c : Nat), s.length = s'.length → vs.length = ks.length → (∃ key ∈ ks, key.toNat = c) → (putAll s ks vs).getD c 0 = (putAll s' ks vs).getD c 0
  | [], _, _, _, _, _, _, h => by obtain ⟨_, h, _⟩ := h; cases h
  | key :: ks, s, s', [], c, _, hv, _ => by simp at hv
  | key :: ks, s, s', v :: vs, c, hl, hv, h => by
    rw [putAll, putAll]
    have same : ∀ (ks s s' vs : List Int), s.length = s'.length → s.getD c 0 = s'.getD c 0 → (putAll s ks vs).getD c 0 = (putAll s' ks vs).getD c 0 := by
      intro ks
      induction ks with
      | nil => intro s s' vs _ h; cases vs <;> exact h
      | cons a t ih =>
        intro s s' vs hl h
        cases vs with
        | nil => exact h
        | cons v vs =>
          rw [putAll, putAll]
          refine ih _ _ vs (by simpa using hl) ?_
          simp only [List.getD, List.getElem?_set, hl] at h ⊢
          by_cases e : a.toNat = c
          · simp [e]
          · simpa [e] using h
    by_cases ec : key.toNat = c
    · refine same _ _ _ _ (by simpa using hl) ?_
      simp only [List.getD, List.getElem?_set, hl]
      simp [ec]
    · obtain ⟨k', hk', e'⟩ := h
      rcases List.mem_cons.1 hk' with rfl | hk'
      · exact absurd e' ec
      · exact putAll_hit ks _ _ vs c (by simpa using hl) (by simpa using hv) ⟨k', hk', e'⟩

/-- All steps that may be, in their order. -/
def canR (sh : Nat) (l : List TxA) (S : SA) (kind n : Nat) (j : Nat) : List (Nat × Nat × Nat) := ((List.range j).filter (mayB sh l S kind n)).map fun k => (kind, n, k)
def canT (sh : Nat) (l : List TxA) (S : SA) (kind : Nat) (m : Nat) : List (Nat × Nat × Nat) := (List.range m).flatMap fun n => canR sh l S kind n sh
def canK (sh : Nat) (l : List TxA) (S : SA) (kind : Nat) : List (Nat × Nat × Nat) := canT sh l S kind l.length
def canL (sh : Nat) (l : List TxA) (S : SA) : List (Nat × Nat × Nat) := canK sh l S 1 ++ canK sh l S 2
theorem canR_step (sh : Nat) (l : List TxA) (S : SA) (kind n j : Nat) : canR sh l S kind n (j + 1) = canR sh l S kind n j ++ (if mayB sh l S kind n j then [(kind, n, j)] else []) := by
  unfold canR
  rw [List.range_succ, List.filter_append, List.map_append]
  cases h : mayB sh l S kind n j <;> simp [h]
theorem canT_step (sh : Nat) (l : List TxA) (S : SA) (kind m : Nat) : canT sh l S kind (m + 1) = canT sh l S kind m ++ canR sh l S kind m sh := by
  unfold canT
  rw [List.range_succ, List.flatMap_append]
  simp
theorem canR_len (sh : Nat) (l : List TxA) (S : SA) (kind n j : Nat) : (canR sh l S kind n j).length ≤ j := by
  unfold canR
  rw [List.length_map]
  exact Nat.le_trans (List.length_filter_le _ _) (by simp)
theorem canT_len (sh : Nat) (l : List TxA) (S : SA) (kind : Nat) : ∀ m, (canT sh l S kind m).length ≤ m * sh
  | 0 => by simp [canT]
  | m + 1 => by
    have h1 := canT_len sh l S kind m
    have h2 := canR_len sh l S kind m sh
    rw [canT_step, List.length_append, Nat.succ_mul]
    omega
theorem canL_mem {sh : Nat} {l : List TxA} {S : SA} {x : Nat × Nat × Nat} : x ∈ canL sh l S ↔ (x.1 = 1 ∨ x.1 = 2) ∧ x.2.1 < l.length ∧ x.2.2 < sh ∧ mayB sh l S x.1 x.2.1 x.2.2 = true := by
  obtain ⟨kd, n, k⟩ := x
  have key : ∀ kind, ((kd, n, k) ∈ canK sh l S kind ↔ kd = kind ∧ n < l.length ∧ k < sh ∧ mayB sh l S kind n k = true) := by
    intro kind
    unfold canK canT canR
    simp only [List.mem_flatMap, List.mem_range, List.mem_map, List.mem_filter, Prod.mk.injEq]
    constructor
    · rintro ⟨m, hm, j, ⟨hj, h⟩, rfl, rfl, rfl⟩; exact ⟨rfl, hm, hj, h⟩
    · rintro ⟨rfl, hn, hk, h⟩; exact ⟨n, hn, k, ⟨hk, h⟩, rfl, rfl, rfl⟩
  unfold canL
  rw [List.mem_append, key 1, key 2]
  constructor
  · rintro (⟨rfl, h⟩ | ⟨rfl, h⟩)
    · exact ⟨.inl rfl, h⟩
    · exact ⟨.inr rfl, h⟩
  · rintro ⟨rfl | rfl, h⟩
    · exact .inl ⟨rfl, h⟩
    · exact .inr ⟨rfl, h⟩
def overTo (sh : Nat) (l : List TxA) (S : SA) (n : Nat) : Bool := (List.range n).all fun m => (List.range sh).all fun k => goneB sh l S m k
def overB (sh : Nat) (l : List TxA) (S : SA) : Bool := overTo sh l S l.length
theorem overB_iff {sh : Nat} {l : List TxA} {S : SA} : overB sh l S = true ↔ ∀ n k, n < l.length → k < sh → goneB sh l S n k = true := by
  unfold overB overTo
  simp only [List.all_eq_true, List.mem_range]
  exact ⟨fun h n k hn hk => h n hn k hk, fun h n hn k hk => h n k hn hk⟩
/-- The error of a step. -/
def stepE (sh : Nat) (l : List TxA) (S : SA) (kind n k : Int) : Int :=
  if kind = 1 ∨ kind = 2 then
    if n < 0 ∨ (l.length : Int) ≤ n ∨ k < 0 ∨ (sh : Int) ≤ k then 5
    else if hasB sh l kind.toNat n.toNat k.toNat then (if doneB S kind.toNat n.toNat k.toNat then 7 else if freeB sh l S kind.toNat n.toNat k.toNat then 0 else 6)
    else 5
  else 4
end Go.Proofs.YtebjkmknhpgemaaGreat
