/-
  Who is ready, said of lists: those that are granted all keys are those with which none ahead clashes that is not done; if not all are done one is ready; picks that may be.
  Conditions: those that each theorem states.
-/
import Derived.Test.YtikolifbljnokaaGreatGraphA
namespace Go.Proofs.YtikolifbljnokaaGreat

/-- Who is ready; who stands in a key's queue; who is granted it. -/
def dn (done : List Bool) (k : Nat) : Bool := done.getD k false
def freeTo (l : List TxA) (done : List Bool) (n m : Nat) : Bool := (List.range m).all fun k => dn done k || !clashX (gX l k) (gX l n)
def readyX (l : List TxA) (done : List Bool) (n : Nat) : Bool := !dn done n && freeTo l done n n
def readyTo (l : List TxA) (done : List Bool) (n : Nat) : List Nat := (List.range n).filter (readyX l done)
def readyL (l : List TxA) (done : List Bool) : List Nat := readyTo l done l.length
def qAdd (l : List TxA) (done : List Bool) (key n : Nat) : List (Nat × Bool) := if (!dn done n && hasX (gX l n) key) = true then [(n, wrX (gX l n) key)] else []
def queueK (l : List TxA) (done : List Bool) (key : Nat) : Nat → List (Nat × Bool)
  | 0 => []
  | n + 1 => queueK l done key n ++ qAdd l done key n
def grantedV (q : List (Nat × Bool)) (n : Nat) : Bool :=
  if (q.getD (q.findIdx fun p => p.1 == n) (0, false)).2 then q.findIdx (fun p => p.1 == n) == 0 else !(q.take (q.findIdx fun p => p.1 == n)).any Prod.snd
def grantedAll (l : List TxA) (done : List Bool) (n : Nat) : Bool := (lkTo (gX l n).rs (keysOf (gX l n).ss) 8).all fun p => grantedV (queueK l done p.1.toNat l.length) n

theorem freeTo_step (l : List TxA) (done : List Bool) (n m : Nat) : freeTo l done n (m + 1) = (freeTo l done n m && (dn done m || !clashX (gX l m) (gX l n))) := by
  unfold freeTo
  rw [List.range_succ, List.all_append]
  simp
theorem readyTo_step (l : List TxA) (done : List Bool) (n : Nat) : readyTo l done (n + 1) = readyTo l done n ++ (if readyX l done n = true then [n] else []) := by
  unfold readyTo
  rw [List.range_succ, List.filter_append]
  congr 1
  by_cases h : readyX l done n = true
  · rw [if_pos h, List.filter_cons_of_pos h]; rfl
  · rw [if_neg h, List.filter_cons_of_neg h]; rfl
theorem readyTo_len (l : List TxA) (done : List Bool) (n : Nat) : (readyTo l done n).length ≤ n := by
  have := List.length_filter_le (readyX l done) (List.range n)
  rw [List.length_range] at this
  exact this
theorem readyTo_mem {l : List TxA} {done : List Bool} {n i : Nat} : i ∈ readyTo l done n ↔ i < n ∧ readyX l done i = true := by
  unfold readyTo
  rw [List.mem_filter, List.mem_range]
theorem queueK_mem (l : List TxA) (done : List Bool) (key : Nat) (p : Nat × Bool) : ∀ n, p ∈ queueK l done key n ↔ p.1 < n ∧ dn done p.1 = false ∧ hasX (gX l p.1) key = true ∧ p.2 = wrX (gX l p.1) key
  | 0 => by simp [queueK]
  | n + 1 => by
    rw [queueK, List.mem_append, queueK_mem l done key p n]
    constructor
    · rintro (⟨h, h'⟩ | h)
      · exact ⟨by omega, h'⟩
      · unfold qAdd at h
        split at h
        · rename_i hc
          rw [List.mem_singleton] at h
          subst h
          rw [Bool.and_eq_true, Bool.not_eq_true'] at hc
          exact ⟨by simp, hc.1, hc.2, rfl⟩
        · cases h
    · rintro ⟨h, h1, h2, h3⟩
      by_cases e : p.1 = n
      · right
        unfold qAdd
        rw [← e, h1, h2]
        simp only [Bool.not_false, Bool.and_self, if_true, List.mem_singleton]
        rw [← h3]
      · exact .inl ⟨by omega, h1, h2, h3⟩
theorem queueK_len (l : List TxA) (done : List Bool) (key : Nat) : ∀ n, (queueK l done key n).length ≤ n
  | 0 => Nat.le_refl _
  | n + 1 => by
    have := queueK_len l done key n
    rw [queueK, List.length_append]
    unfold qAdd
    split <;> simp <;> omega
theorem queueK_split (l : List TxA) (done : List Bool) (key n : Nat) : ∀ m, n < m → ∃ B, queueK l done key m = queueK l done key n ++ qAdd l done key n ++ B
  | 0, h => by omega
  | m + 1, h => by
    by_cases e : n = m
    · subst e
      exact ⟨[], by rw [queueK, List.append_nil]⟩
    · obtain ⟨B, hB⟩ := queueK_split l done key n m (by omega)
      exact ⟨B ++ qAdd l done key m, by rw [queueK, hB, List.append_assoc]⟩
theorem find_app (A B : List (Nat × Bool)) (n : Nat) (b : Bool) (h : ∀ p ∈ A, p.1 ≠ n) : (A ++ [(n, b)] ++ B).findIdx (fun p => p.1 == n) = A.length := by
  induction A with
  | nil => simp [List.findIdx_cons]
  | cons a A ih =>
    have ha : (a.1 == n) = false := by simpa using h a List.mem_cons_self
    rw [List.cons_append, List.cons_append, List.findIdx_cons, ha]
    simp only [cond_false]
    rw [ih (fun p hp => h p (List.mem_cons_of_mem _ hp))]
    rfl
theorem granted_is (l : List TxA) (done : List Bool) (key n : Nat) (hn : n < l.length) (hd : dn done n = false) (hh : hasX (gX l n) key = true) :
    grantedV (queueK l done key l.length) n = true ↔ ∀ k, k < n → dn done k = false → hasX (gX l k) key = true → (wrX (gX l k) key || wrX (gX l n) key) = false := by
  obtain ⟨B, hB⟩ := queueK_split l done key n l.length hn
  have hq : qAdd l done key n = [(n, wrX (gX l n) key)] := by unfold qAdd; rw [hd, hh]; rfl
  rw [hq] at hB
  have hA : ∀ p ∈ queueK l done key n, p.1 ≠ n := fun p hp => by
    have := ((queueK_mem l done key p n).1 hp).1
    omega
  unfold grantedV
  rw [hB, find_app _ B n _ hA]
  have hg : ((queueK l done key n ++ [(n, wrX (gX l n) key)] ++ B).getD (queueK l done key n).length (0, false)).2 = wrX (gX l n) key := by simp [List.getD]
  have ht : (queueK l done key n ++ [(n, wrX (gX l n) key)] ++ B).take (queueK l done key n).length = queueK l done key n := by rw [List.append_assoc]; simp
  rw [hg, ht]
  cases hw : wrX (gX l n) key with
  | true =>
    simp only [if_true, Bool.or_true, beq_iff_eq]
    constructor
    · intro h k hk h1 h2
      have hm : (k, wrX (gX l k) key) ∈ queueK l done key n := (queueK_mem _ _ _ _ _).2 ⟨hk, h1, h2, rfl⟩
      rw [List.length_eq_zero_iff.1 h] at hm
      cases hm
    · intro h
      rw [List.length_eq_zero_iff]
      refine List.eq_nil_iff_forall_not_mem.2 fun p hp => ?_
      obtain ⟨h1, h2, h3, _⟩ := (queueK_mem _ _ _ _ _).1 hp
      have := h p.1 h1 h2 h3
      cases this
  | false =>
    simp only [Bool.false_eq_true, if_false, Bool.or_false, Bool.not_eq_true', List.any_eq_false]
    constructor
    · intro h k hk h1 h2
      have hm : (k, wrX (gX l k) key) ∈ queueK l done key n := (queueK_mem _ _ _ _ _).2 ⟨hk, h1, h2, rfl⟩
      have := h _ hm
      simpa using this
    · intro h p hp
      obtain ⟨h1, h2, h3, h4⟩ := (queueK_mem _ _ _ _ _).1 hp
      rw [h4, h p.1 h1 h2 h3]
      simp
theorem grantedAll_free (l : List TxA) (done : List Bool) (n : Nat) (hn : n < l.length) (hd : dn done n = false) : grantedAll l done n = freeTo l done n n := by
  rw [Bool.eq_iff_iff]
  unfold grantedAll freeTo
  rw [List.all_eq_true, List.all_eq_true]
  constructor
  · intro h k hk
    have hk := List.mem_range.1 hk
    cases h1 : dn done k with
    | true => rfl
    | false =>
      rw [Bool.false_or, Bool.not_eq_true', clashX_false]
      intro key h8
      rw [clashAt_has]
      cases h2 : hasX (gX l k) key with
      | false => rfl
      | true =>
        cases h3 : hasX (gX l n) key with
        | false => rfl
        | true =>
          have := h _ ((lkX_mem (gX l n) _).2 ⟨key, h8, h3, rfl⟩)
          rw [Int.toNat_natCast] at this
          have := (granted_is l done key n hn hd h3).1 this k hk h1 h2
          rw [this]; rfl
  · intro h p hp
    obtain ⟨key, h8, h3, rfl⟩ := (lkX_mem (gX l n) _).1 hp
    rw [Int.toNat_natCast, granted_is l done key n hn hd h3]
    intro k hk h1 h2
    have := h k (List.mem_range.2 hk)
    rw [h1, Bool.false_or, Bool.not_eq_true', clashX_false] at this
    have := this key h8
    rw [clashAt_has, h2, h3] at this
    simpa using this
theorem grantedAll_ready (l : List TxA) (done : List Bool) (n : Nat) (hn : n < l.length) : readyX l done n = (!dn done n && grantedAll l done n) := by
  unfold readyX
  cases hd : dn done n with
  | true => rfl
  | false => rw [grantedAll_free l done n hn hd]

/-- Those that are not done, in their order. -/
def leftOf (l : List TxA) (done : List Bool) : List Nat := (List.range l.length).filter fun i => !dn done i
theorem dn_set (done : List Bool) (n k : Nat) (h : n < done.length) : dn (done.set n true) k = (dn done k || k == n) := by
  unfold dn
  by_cases e : n = k
  · subst e
    simp [List.getD, h]
  · have e' : (k == n) = false := by simpa using fun h => e h.symm
    simp [List.getD, List.getElem?_set_ne e, e']
theorem leftOf_set (l : List TxA) (done : List Bool) (n : Nat) (h : n < done.length) : leftOf l (done.set n true) = (leftOf l done).erase n := by
  have hnd : (leftOf l done).Nodup := List.nodup_range.filter _
  rw [hnd.erase_eq_filter]
  unfold leftOf
  rw [List.filter_filter]
  refine List.filter_congr fun i _ => ?_
  rw [dn_set done n i h]
  cases dn done i <;> by_cases e : i = n <;> simp [e, bne]
theorem leftOf_mem {l : List TxA} {done : List Bool} {i : Nat} : i ∈ leftOf l done ↔ i < l.length ∧ dn done i = false := by
  unfold leftOf
  rw [List.mem_filter, List.mem_range, Bool.not_eq_true']
theorem readyX_iff {l : List TxA} {done : List Bool} {n : Nat} : readyX l done n = true ↔ dn done n = false ∧ ∀ k, k < n → dn done k = false → clashX (gX l k) (gX l n) = false := by
  unfold readyX freeTo
  rw [Bool.and_eq_true, Bool.not_eq_true', List.all_eq_true]
  constructor
  · rintro ⟨h, h'⟩
    refine ⟨h, fun k hk hd => ?_⟩
    have := h' k (List.mem_range.2 hk)
    rw [hd] at this
    simpa using this
  · rintro ⟨h, h'⟩
    refine ⟨h, fun k hk => ?_⟩
    cases hd : dn done k with
    | true => rfl
    | false => rw [h' k (List.mem_range.1 hk) hd]; rfl
/-- If not all are done, one is ready. -/
theorem ready_some (l : List TxA) (done : List Bool) : ∀ i, dn done i = false → ∃ n, n ≤ i ∧ readyX l done n = true := by
  intro i
  induction i using Nat.strongRecOn with
  | _ i ih =>
    intro hi
    by_cases h : ∃ k, k < i ∧ dn done k = false
    · obtain ⟨k, hk, hd⟩ := h
      obtain ⟨n, hn, hr⟩ := ih k hk hd
      exact ⟨n, by omega, hr⟩
    · refine ⟨i, Nat.le_refl _, readyX_iff.2 ⟨hi, fun k hk hd => absurd ⟨k, hk, hd⟩ h⟩⟩
theorem readyL_none (l : List TxA) (done : List Bool) : readyL l done = [] ↔ ∀ i, i < l.length → dn done i = true := by
  constructor
  · intro h i hi
    cases hd : dn done i with
    | true => rfl
    | false =>
      obtain ⟨n, hn, hr⟩ := ready_some l done i hd
      have hm : n ∈ readyL l done := readyTo_mem.2 ⟨by omega, hr⟩
      rw [h] at hm
      cases hm
  · intro h
    refine List.eq_nil_iff_forall_not_mem.2 fun i hi => ?_
    obtain ⟨h1, h2⟩ := readyTo_mem.1 hi
    have := (readyX_iff.1 h2).1
    rw [h i h1] at this
    cases this
/-- No two that are ready clash; who was ready stays so when another is done. -/
theorem ready_apart {l : List TxA} {done : List Bool} {a b : Nat} (ha : readyX l done a = true) (hb : readyX l done b = true) (h : a < b) : clashX (gX l a) (gX l b) = false := (readyX_iff.1 hb).2 a h (readyX_iff.1 ha).1
theorem ready_stays {l : List TxA} {done : List Bool} {a b : Nat} (hb : b < done.length) (ha : readyX l done a = true) (h : a ≠ b) : readyX l (done.set b true) a = true := by
  obtain ⟨h1, h2⟩ := readyX_iff.1 ha
  refine readyX_iff.2 ⟨?_, fun k hk hd => h2 k hk ?_⟩
  · rw [dn_set done b a hb, h1]; simpa using h
  · rw [dn_set done b k hb] at hd
    exact (Bool.or_eq_false_iff.1 hd).1
theorem ready_gone {l : List TxA} {done : List Bool} {b : Nat} (hb : b < done.length) : readyX l (done.set b true) b = false := by
  unfold readyX
  rw [dn_set done b b hb]
  simp

/-- The errors of picks, one by one; who is done behind them. -/
def pick1 (l : List TxA) (done : List Bool) (p : Int) : Int := if p < 0 ∨ (l.length : Int) ≤ p then 5 else if dn done p.toNat = true then 7 else if readyX l done p.toNat = true then 0 else 6
def pkE (l : List TxA) : List Bool → List Int → Int
  | _, [] => 0
  | done, p :: t => if pick1 l done p = 0 then pkE l (done.set p.toNat true) t else pick1 l done p
def dnP (done : List Bool) (picks : List Int) : List Bool := picks.foldl (fun d p => d.set p.toNat true) done
def leftE (done : List Bool) : Int := if false ∈ done then 8 else 0

theorem dnP_len : ∀ (picks : List Int) (done : List Bool), (dnP done picks).length = done.length
  | [], _ => rfl
  | p :: t, done => by
    have := dnP_len t (done.set p.toNat true)
    rw [List.length_set] at this
    exact this
theorem dnP_snoc (done : List Bool) (a : List Int) (p : Int) : dnP done (a ++ [p]) = (dnP done a).set p.toNat true := by simp [dnP]
theorem pkE_snoc (l : List TxA) : ∀ (a : List Int) (done : List Bool) (p : Int), pkE l done (a ++ [p]) = if pkE l done a = 0 then pick1 l (dnP done a) p else pkE l done a
  | [], done, p => by
    show (if pick1 l done p = 0 then 0 else pick1 l done p) = if (0 : Int) = 0 then pick1 l done p else 0
    rw [if_pos rfl]
    by_cases h : pick1 l done p = 0
    · rw [if_pos h, h]
    · rw [if_neg h]
  | q :: a, done, p => by
    rw [List.cons_append, pkE, pkE, pkE_snoc l a]
    by_cases h : pick1 l done q = 0
    · rw [if_pos h, if_pos h]; rfl
    · rw [if_neg h, if_neg h, if_neg h]
theorem pick1_zero {l : List TxA} {done : List Bool} {p : Int} (h : pick1 l done p = 0) : 0 ≤ p ∧ p.toNat < l.length ∧ readyX l done p.toNat = true := by
  unfold pick1 at h
  by_cases c1 : p < 0 ∨ (l.length : Int) ≤ p
  · rw [if_pos c1] at h; omega
  · rw [if_neg c1] at h
    by_cases c2 : dn done p.toNat = true
    · rw [if_pos c2] at h; omega
    · rw [if_neg c2] at h
      by_cases c3 : readyX l done p.toNat = true
      · exact ⟨by omega, by omega, c3⟩
      · rw [if_neg c3] at h; omega
theorem pkE_adm (l : List TxA) : ∀ (picks : List Int) (done : List Bool), done.length = l.length → pkE l done picks = 0 → (∀ i, i < l.length → dn (dnP done picks) i = true) → Adm l (leftOf l done) (picks.map Int.toNat)
  | [], done, hl, _, hd => by
    show leftOf l done = []
    refine List.eq_nil_iff_forall_not_mem.2 fun i hi => ?_
    obtain ⟨h1, h2⟩ := leftOf_mem.1 hi
    have h3 : dn done i = true := hd i h1
    rw [h2] at h3
    cases h3
  | p :: t, done, hl, h, hd => by
    rw [pkE] at h
    have hp : pick1 l done p = 0 := by
      by_cases c : pick1 l done p = 0
      · exact c
      · rw [if_neg c] at h; exact h
    rw [if_pos hp] at h
    obtain ⟨h0, h1, h2⟩ := pick1_zero hp
    obtain ⟨h3, h4⟩ := readyX_iff.1 h2
    rw [List.map_cons]
    refine ⟨leftOf_mem.2 ⟨h1, h3⟩, fun k hk hlt => h4 k hlt (leftOf_mem.1 hk).2, ?_⟩
    rw [← leftOf_set l done p.toNat (by omega)]
    exact pkE_adm l t _ (by rw [List.length_set]; exact hl) h hd
theorem dn_mem (done : List Bool) : false ∈ done ↔ ∃ i, i < done.length ∧ dn done i = false := by
  constructor
  · intro h
    obtain ⟨i, hi, e⟩ := List.mem_iff_getElem.1 h
    exact ⟨i, hi, by simp [dn, List.getD, hi, e]⟩
  · rintro ⟨i, hi, h⟩
    have : done[i] = false := by simpa [dn, List.getD, hi] using h
    rw [← this]
    exact List.getElem_mem hi
theorem leftE_zero {done : List Bool} : leftE done = 0 ↔ ∀ i, i < done.length → dn done i = true := by
  unfold leftE
  by_cases c : false ∈ done
  · rw [if_pos c]
    constructor
    · intro h; omega
    · intro h
      obtain ⟨i, hi, hd⟩ := (dn_mem done).1 c
      rw [h i hi] at hd
      cases hd
  · rw [if_neg c]
    refine ⟨fun _ i hi => ?_, fun _ => rfl⟩
    cases hd : dn done i with
    | true => rfl
    | false => exact absurd ((dn_mem done).2 ⟨i, hi, hd⟩) c
theorem leftOf_start (l : List TxA) : leftOf l (List.replicate l.length false) = List.range l.length := by
  unfold leftOf
  rw [List.filter_eq_self]
  intro i hi
  have hi := List.mem_range.1 hi
  simp [dn, List.getD, hi]
/-- How many are not done. -/
def cnt (done : List Bool) : Nat := done.count false
theorem cnt_set : ∀ (done : List Bool) (n : Nat), n < done.length → dn done n = false → cnt (done.set n true) + 1 = cnt done
  | [], n, h, _ => by simp at h
  | b :: t, 0, _, h => by
    have h' : b = false := by simpa [dn] using h
    subst h'
    simp [cnt]
  | b :: t, n + 1, h, hd => by
    have ih := cnt_set t n (by simpa using h) (by simpa [dn, List.getD] using hd)
    unfold cnt at *
    rw [List.set_cons_succ, List.count_cons, List.count_cons]
    omega
theorem cnt_pos (done : List Bool) : 0 < cnt done ↔ false ∈ done := List.count_pos_iff
theorem cnt_rep (n : Nat) : cnt (List.replicate n false) = n := by simp [cnt]
/-- The picks of one that is always ready come to the end. -/
theorem pkE_more {l : List TxA} {done : List Bool} {a : List Int} {n : Nat} (h : pkE l done a = 0) (hn : n < l.length) (hr : readyX l (dnP done a) n = true) : pkE l done (a ++ [(n : Int)]) = 0 := by
  rw [pkE_snoc, if_pos h]
  unfold pick1
  rw [if_neg (by omega), Int.toNat_natCast, if_pos hr, (readyX_iff.1 hr).1]
  simp
end Go.Proofs.YtikolifbljnokaaGreat
