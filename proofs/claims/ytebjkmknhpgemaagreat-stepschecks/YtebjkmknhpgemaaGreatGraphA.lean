/-
  Who clashes with whom, said of lists: it is the same both ways; who does not clash may change places; whatever picks there are that may be, the same comes.
  Conditions: those that each theorem states.
-/
import Derived.Test.YtebjkmknhpgemaaGreatStoreC
import Derived.Test.YtebjkmknhpgemaaGreatTxnG
namespace Go.Proofs.YtebjkmknhpgemaaGreat

/-- A transaction whose keys are keys, and that sets one. -/
structure Good (x : TxA) : Prop where
  r : ∀ k ∈ x.rs, 0 ≤ k ∧ k < 8
  s : ∀ k ∈ keysOf x.ss, 0 ≤ k ∧ k < 8
  n : keysOf x.ss ≠ []
theorem good_of {x : TxA} (h : chkX x = 0) : Good x := by
  obtain ⟨ra, ga, sa, rc, gc, sc, rs, gs, ss⟩ := x
  have h' : chkTx rs gs ss = 0 := h
  obtain ⟨h1, h2⟩ := chk_ranges h'
  obtain ⟨_, _, _, h3⟩ := many_small _ _ _ (chk_parts h').1
  refine ⟨fun k hk => rangeE_in _ h1 k hk, fun k hk => rangeE_in _ h2 k hk, fun h0 => ?_⟩
  have : (keysOf ss).length = 0 := by
    have h0' : keysOf ss = [] := h0
    rw [h0']; rfl
  rw [keys_len] at this
  omega

/-- Does it read a key, set it? Do two clash at a key; at one below n; at all? -/
def rdX (x : TxA) (k : Nat) : Bool := decide ((k : Int) ∈ x.rs)
def wrX (x : TxA) (k : Nat) : Bool := decide ((k : Int) ∈ keysOf x.ss)
def hasX (x : TxA) (k : Nat) : Bool := rdX x k || wrX x k
def clashAt (x y : TxA) (k : Nat) : Bool := (wrX x k && (rdX y k || wrX y k)) || (wrX y k && rdX x k)
def clashTo (x y : TxA) (n : Nat) : Bool := (List.range n).any (clashAt x y)
def clashX (x y : TxA) : Bool := clashTo x y 8

theorem clashAt_has (x y : TxA) (k : Nat) : clashAt x y k = (hasX x k && hasX y k && (wrX x k || wrX y k)) := by
  unfold clashAt hasX
  cases wrX x k <;> cases rdX x k <;> cases wrX y k <;> cases rdX y k <;> rfl
theorem clashAt_symm (x y : TxA) (k : Nat) : clashAt x y k = clashAt y x k := by
  rw [clashAt_has, clashAt_has]
  cases hasX x k <;> cases hasX y k <;> cases wrX x k <;> cases wrX y k <;> rfl
theorem clashX_symm (x y : TxA) : clashX x y = clashX y x := by
  unfold clashX clashTo
  congr 1
  funext k
  exact clashAt_symm x y k
theorem clashX_true {x y : TxA} : clashX x y = true ↔ ∃ k, k < 8 ∧ clashAt x y k = true := by
  unfold clashX clashTo
  rw [List.any_eq_true]
  constructor
  · rintro ⟨k, hk, h⟩; exact ⟨k, List.mem_range.1 hk, h⟩
  · rintro ⟨k, hk, h⟩; exact ⟨k, List.mem_range.2 hk, h⟩
theorem clashX_false {x y : TxA} : clashX x y = false ↔ ∀ k, k < 8 → clashAt x y k = false := by
  rw [← Bool.not_eq_true, clashX_true]
  constructor
  · intro h k hk
    cases e : clashAt x y k with
    | false => rfl
    | true => exact absurd ⟨k, hk, e⟩ h
  · rintro h ⟨k, hk, e⟩
    rw [h k hk] at e
    cases e
theorem clashX_self {x : TxA} (h : Good x) : clashX x x = true := by
  rw [clashX_true]
  obtain ⟨k, hk⟩ := List.exists_mem_of_ne_nil _ h.n
  obtain ⟨h0, h8⟩ := h.s k hk
  refine ⟨k.toNat, by omega, ?_⟩
  have hw : wrX x k.toNat = true := by
    unfold wrX
    rw [show ((k.toNat : Nat) : Int) = k by omega]
    exact decide_eq_true hk
  rw [clashAt_has, hasX, hw]
  simp
theorem clashTo_step (x y : TxA) (n : Nat) : clashTo x y (n + 1) = (clashTo x y n || clashAt x y n) := by
  unfold clashTo
  rw [List.range_succ, List.any_append]
  simp

/-- Two lists of locks that meet. -/
def meetV (L M : List (Int × Bool)) : Bool := L.any fun a => M.any fun b => a.1 == b.1 && (a.2 || b.2)
theorem lkTo_mem (rs ks : List Int) (p : Int × Bool) : ∀ n, p ∈ lkTo rs ks n ↔ ∃ k : Nat, k < n ∧ ((k : Int) ∈ ks ∨ (k : Int) ∈ rs) ∧ p = ((k : Int), decide ((k : Int) ∈ ks))
  | 0 => by simp [lkTo]
  | n + 1 => by
    rw [lkTo, List.mem_append, lkTo_mem rs ks p n]
    constructor
    · rintro (⟨k, hk, h⟩ | h)
      · exact ⟨k, by omega, h⟩
      · by_cases c : (n : Int) ∈ ks ∨ (n : Int) ∈ rs
        · rw [if_pos c, List.mem_singleton] at h
          exact ⟨n, by omega, c, h⟩
        · rw [if_neg c] at h
          cases h
    · rintro ⟨k, hk, hc, h⟩
      by_cases e : k = n
      · subst e
        right
        rw [if_pos hc, List.mem_singleton]
        exact h
      · exact .inl ⟨k, by omega, hc, h⟩
theorem hasX_iff (x : TxA) (k : Nat) : hasX x k = true ↔ ((k : Int) ∈ keysOf x.ss ∨ (k : Int) ∈ x.rs) := by
  unfold hasX rdX wrX
  simp [Or.comm]
theorem lkX_mem (x : TxA) (p : Int × Bool) : p ∈ lkTo x.rs (keysOf x.ss) 8 ↔ ∃ k : Nat, k < 8 ∧ hasX x k = true ∧ p = ((k : Int), wrX x k) := by
  rw [lkTo_mem]
  constructor
  · rintro ⟨k, hk, hc, h⟩; exact ⟨k, hk, (hasX_iff x k).2 hc, h⟩
  · rintro ⟨k, hk, hc, h⟩; exact ⟨k, hk, (hasX_iff x k).1 hc, h⟩
theorem meetV_clash (x y : TxA) : meetV (lkTo x.rs (keysOf x.ss) 8) (lkTo y.rs (keysOf y.ss) 8) = clashX x y := by
  rw [Bool.eq_iff_iff, clashX_true]
  unfold meetV
  simp only [List.any_eq_true]
  constructor
  · rintro ⟨a, ha, b, hb, h⟩
    obtain ⟨k, hk, hc, rfl⟩ := (lkX_mem x a).1 ha
    obtain ⟨j, hj, hd, rfl⟩ := (lkX_mem y b).1 hb
    simp only [Bool.and_eq_true, beq_iff_eq] at h
    have e : k = j := by omega
    subst e
    exact ⟨k, hk, by rw [clashAt_has, hc, hd, h.2]; rfl⟩
  · rintro ⟨k, hk, h⟩
    rw [clashAt_has, Bool.and_eq_true, Bool.and_eq_true] at h
    exact ⟨_, (lkX_mem x _).2 ⟨k, hk, h.1.1, rfl⟩, _, (lkX_mem y _).2 ⟨k, hk, h.1.2, rfl⟩, by simp [h.2]⟩

/-- Who does not clash may change places. -/
theorem putAll_set : ∀ (ks s vs : List Int) (i : Nat) (v : Int), (∀ k ∈ ks, k.toNat ≠ i) → putAll (s.set i v) ks vs = (putAll s ks vs).set i v
  | [], s, vs, i, v, _ => by cases vs <;> rfl
  | k :: ks, s, [], i, v, _ => rfl
  | k :: ks, s, u :: vs, i, v, h => by
    rw [putAll, putAll, List.set_comm _ _ (fun e => h k (List.mem_cons_self) e.symm), putAll_set ks _ vs i v (fun k' hk => h k' (List.mem_cons_of_mem _ hk))]
theorem putAll_comm : ∀ (ks s vs ks' vs' : List Int), (∀ k ∈ ks, ∀ k' ∈ ks', k'.toNat ≠ k.toNat) → putAll (putAll s ks vs) ks' vs' = putAll (putAll s ks' vs') ks vs
  | [], s, vs, ks', vs', _ => by cases vs <;> rfl
  | k :: ks, s, [], ks', vs', _ => rfl
  | k :: ks, s, v :: vs, ks', vs', h => by
    rw [putAll, putAll, putAll_comm ks _ vs ks' vs' (fun a ha b hb => h a (List.mem_cons_of_mem _ ha) b hb), putAll_set ks' s vs' k.toNat v (fun b hb => h k (List.mem_cons_self) b hb)]
theorem apart_set {x y : TxA} (gx : Good x) (gy : Good y) (h : clashX x y = false) : ∀ k ∈ keysOf x.ss, ∀ k' ∈ keysOf y.ss, k'.toNat ≠ k.toNat := by
  intro k hk k' hk' e
  obtain ⟨a0, a8⟩ := gx.s k hk
  obtain ⟨b0, b8⟩ := gy.s k' hk'
  have e' : k' = k := by omega
  subst e'
  have hf := (clashX_false.1 h) k'.toNat (by omega)
  have h1 : wrX x k'.toNat = true := by unfold wrX; rw [show ((k'.toNat : Nat) : Int) = k' by omega]; exact decide_eq_true hk
  have h2 : wrX y k'.toNat = true := by unfold wrX; rw [show ((k'.toNat : Nat) : Int) = k' by omega]; exact decide_eq_true hk'
  rw [clashAt, h1, h2] at hf
  simp at hf
theorem apart_read {x y : TxA} (gx : Good x) (gy : Good y) (h : clashX x y = false) : ∀ k ∈ y.rs, ∀ k' ∈ keysOf x.ss, k'.toNat ≠ k.toNat := by
  intro k hk k' hk' e
  obtain ⟨a0, a8⟩ := gy.r k hk
  obtain ⟨b0, b8⟩ := gx.s k' hk'
  have e' : k' = k := by omega
  subst e'
  have hf := (clashX_false.1 h) k'.toNat (by omega)
  have h1 : wrX x k'.toNat = true := by unfold wrX; rw [show ((k'.toNat : Nat) : Int) = k' by omega]; exact decide_eq_true hk'
  have h2 : rdX y k'.toNat = true := by unfold rdX; rw [show ((k'.toNat : Nat) : Int) = k' by omega]; exact decide_eq_true hk
  rw [clashAt, h1, h2] at hf
  simp at hf
theorem rdOf_past {x y : TxA} (gx : Good x) (gy : Good y) (h : clashX x y = false) (s : List Int) : rdOf (aEnd s x) y.rs = rdOf s y.rs := by
  unfold rdOf
  refine List.map_congr_left fun k hk => ?_
  exact putAll_far _ _ _ _ (fun k' hk' => apart_read gx gy h k hk k' hk')
theorem aDone_past {x y : TxA} (gx : Good x) (gy : Good y) (h : clashX x y = false) (s : List Int) : aDone (aEnd s x) y = aDone s y := by
  unfold aDone
  rw [rdOf_past gx gy h]
theorem aVals_past {x y : TxA} (gx : Good x) (gy : Good y) (h : clashX x y = false) (s : List Int) : aVals (aEnd s x) y = aVals s y := rdOf_past gx gy h s
theorem aEnd_swap {x y : TxA} (gx : Good x) (gy : Good y) (h : clashX x y = false) (s : List Int) : aEnd (aEnd s x) y = aEnd (aEnd s y) x := by
  have h1 : aMade (aEnd s x) y = aMade s y := by unfold aMade; rw [rdOf_past gx gy h]
  have h2 : aMade (aEnd s y) x = aMade s x := by unfold aMade; rw [rdOf_past gy gx (by rw [clashX_symm]; exact h)]
  have e1 : aEnd (aEnd s x) y = putAll (aEnd s x) (keysOf y.ss) (aMade s y) := by rw [← h1]; rfl
  have e2 : aEnd (aEnd s y) x = putAll (aEnd s y) (keysOf x.ss) (aMade s x) := by rw [← h2]; rfl
  rw [e1, e2]
  exact putAll_comm _ _ _ _ _ (apart_set gx gy h)

/-- One that clashes with none ahead may come first. -/
theorem ser_first {x : TxA} (gx : Good x) : ∀ (pre post : List TxA) (s : List Int), (∀ y ∈ pre, Good y ∧ clashX y x = false) →
    serEnd s (pre ++ x :: post) = serEnd (aEnd s x) (pre ++ post) ∧
    serRes s pre = serRes (aEnd s x) pre ∧ aDone (serEnd s pre) x = aDone s x ∧ aVals (serEnd s pre) x = aVals s x ∧ aEnd (serEnd s pre) x = serEnd (aEnd s x) pre
  | [], post, s, _ => ⟨rfl, rfl, rfl, rfl, rfl⟩
  | y :: pre, post, s, h => by
    obtain ⟨gy, hc⟩ := h y List.mem_cons_self
    have hc' : clashX x y = false := by rw [clashX_symm]; exact hc
    obtain ⟨i1, i2, i3, i4, i5⟩ := ser_first gx pre post (aEnd s y) (fun z hz => h z (List.mem_cons_of_mem _ hz))
    have hs := aEnd_swap gy gx hc s
    refine ⟨?_, ?_, ?_, ?_, ?_⟩
    · rw [List.cons_append, serEnd, i1, hs]; rfl
    · rw [serRes, serRes, i2, hs, aDone_past gx gy hc', aVals_past gx gy hc']
    · rw [serEnd, i3, aDone_past gy gx hc]
    · rw [serEnd, i4, aVals_past gy gx hc]
    · rw [serEnd, i5, hs]; rfl
theorem ser_first_res {x : TxA} (gx : Good x) (pre post : List TxA) (s : List Int) (h : ∀ y ∈ pre, Good y ∧ clashX y x = false) :
    serRes s (pre ++ x :: post) = serRes (aEnd s x) pre ++ (aDone s x, aVals s x) :: serRes (serEnd (aEnd s x) pre) post := by
  obtain ⟨_, i2, i3, i4, i5⟩ := ser_first gx pre post s h
  rw [serRes_app, serRes, i2, i3, i4, i5]

/-- Picks that may be, of those that are left, in their order. -/
def gX (l : List TxA) (i : Nat) : TxA := l.getD i x0
def Adm (l : List TxA) : List Nat → List Nat → Prop
  | left, [] => left = []
  | left, n :: t => n ∈ left ∧ (∀ k ∈ left, k < n → clashX (gX l k) (gX l n) = false) ∧ Adm l (left.erase n) t

theorem zip_app {α β : Type} : ∀ (a b : List α) (c d : List β), a.length = c.length → (a ++ b).zip (c ++ d) = a.zip c ++ b.zip d
  | [], b, [], d, _ => rfl
  | x :: a, b, [], d, h => by cases h
  | [], b, y :: c, d, h => by cases h
  | x :: a, b, y :: c, d, h => by
    simp only [List.cons_append, List.zip_cons_cons]
    rw [zip_app a b c d (by simpa using h)]

theorem adm_same (l : List TxA) (hg : ∀ i, i < l.length → Good (gX l i)) : ∀ (picks left : List Nat) (s : List Int), left.Pairwise (· < ·) → (∀ i ∈ left, i < l.length) → Adm l left picks →
    serEnd s (picks.map (gX l)) = serEnd s (left.map (gX l)) ∧ (picks.zip (serRes s (picks.map (gX l)))).Perm (left.zip (serRes s (left.map (gX l))))
  | [], left, s, _, _, h => by
    have h' : left = [] := h
    subst h'
    exact ⟨rfl, List.Perm.refl _⟩
  | n :: t, left, s, hs, hl, h => by
    obtain ⟨hm, hc, ha⟩ := h
    obtain ⟨pre, post, rfl⟩ := List.append_of_mem hm
    have hpre : ∀ k ∈ pre, k < n := fun k hk => (List.pairwise_append.1 hs).2.2 k hk n List.mem_cons_self
    have hnp : n ∉ pre := fun h => Nat.lt_irrefl _ (hpre n h)
    have he : (pre ++ n :: post).erase n = pre ++ post := by
      rw [List.erase_append_right _ hnp, List.erase_cons_head]
    rw [he] at ha
    have hsub : (pre ++ post).Sublist (pre ++ n :: post) := List.Sublist.append_left (List.sublist_cons_self n post) pre
    have hgood : ∀ i ∈ pre ++ n :: post, Good (gX l i) := fun i hi => hg i (hl i hi)
    obtain ⟨ie, ir⟩ := adm_same l hg t (pre ++ post) (aEnd s (gX l n)) (hs.sublist hsub) (fun i hi => hl i (hsub.subset hi)) ha
    have gn := hgood n hm
    have hp : ∀ y ∈ pre.map (gX l), Good y ∧ clashX y (gX l n) = false := by
      intro y hy
      obtain ⟨k, hk, rfl⟩ := List.mem_map.1 hy
      have hk' : k ∈ pre ++ n :: post := List.mem_append_left _ hk
      exact ⟨hgood k hk', hc k hk' (hpre k hk)⟩
    have f1 := (ser_first gn (pre.map (gX l)) (post.map (gX l)) s hp).1
    have f2 := ser_first_res gn (pre.map (gX l)) (post.map (gX l)) s hp
    refine ⟨?_, ?_⟩
    · rw [List.map_cons, serEnd, ie, List.map_append, List.map_append, List.map_cons, f1]
    · rw [List.map_cons, serRes, List.zip_cons_cons, List.map_append, List.map_cons, f2]
      refine (List.Perm.cons _ ir).trans ?_
      rw [List.map_append, serRes_app, zip_app _ _ _ _ (by rw [serRes_len, List.length_map]), zip_app _ _ _ _ (by rw [serRes_len, List.length_map]), List.zip_cons_cons]
      exact List.perm_middle.symm

/-- Results laid at their places. -/
def putRes (R : List (Bool × List Int)) : List Nat → List (Bool × List Int) → List (Bool × List Int)
  | n :: t, r :: rs => putRes (R.set n r) t rs
  | _, _ => R
theorem putRes_len : ∀ (ps : List Nat) (R rs : List (Bool × List Int)), (putRes R ps rs).length = R.length
  | [], R, rs => by cases rs <;> rfl
  | n :: t, R, [] => rfl
  | n :: t, R, r :: rs => by rw [putRes, putRes_len t]; simp
theorem putRes_far : ∀ (ps : List Nat) (R rs : List (Bool × List Int)) (i : Nat), i ∉ ps → (putRes R ps rs)[i]? = R[i]?
  | [], R, rs, i, _ => by cases rs <;> rfl
  | n :: t, R, [], i, _ => rfl
  | n :: t, R, r :: rs, i, h => by
    rw [putRes, putRes_far t _ rs i (fun h' => h (List.mem_cons_of_mem _ h')), List.getElem?_set_ne (fun e => h (by rw [← e]; exact List.mem_cons_self))]
theorem putRes_in : ∀ (ps : List Nat) (R rs : List (Bool × List Int)) (i : Nat) (r : Bool × List Int), ps.Nodup → i < R.length → (i, r) ∈ ps.zip rs → (putRes R ps rs)[i]? = some r
  | [], R, rs, i, r, _, _, h => by simp at h
  | n :: t, R, [], i, r, _, _, h => by simp at h
  | n :: t, R, q :: rs, i, r, hn, hi, h => by
    rw [List.zip_cons_cons] at h
    obtain ⟨hn1, hn2⟩ := List.nodup_cons.1 hn
    rw [putRes]
    rcases List.mem_cons.1 h with h | h
    · injection h with h1 h2
      subst h1 h2
      rw [putRes_far t _ rs _ hn1, List.getElem?_set_self hi]
    · exact putRes_in t _ rs i r hn2 (by simpa using hi) h
theorem zip_range_mem : ∀ (R : List (Bool × List Int)) (i : Nat), (h : i < R.length) → (i, R[i]) ∈ (List.range R.length).zip R := fun R i h => by
  rw [List.mem_iff_getElem?]
  exact ⟨i, by rw [List.getElem?_zip_eq_some]; exact ⟨by simp [h], by simp [h]⟩⟩
theorem putRes_perm (ps : List Nat) (rs R0 R : List (Bool × List Int)) (hl : rs.length = ps.length) (h0 : R0.length = R.length) (hp : (ps.zip rs).Perm ((List.range R.length).zip R)) : putRes R0 ps rs = R := by
  have hfst : ps.Perm (List.range R.length) := by
    have h := hp.map Prod.fst
    rwa [List.map_fst_zip (by omega), List.map_fst_zip (by simp)] at h
  have hnd : ps.Nodup := (hfst.nodup_iff).2 List.nodup_range
  refine List.ext_getElem? fun i => ?_
  by_cases hi : i < R.length
  · rw [putRes_in ps R0 rs i R[i] hnd (by omega) ((hp.mem_iff).2 (zip_range_mem R i hi)), List.getElem?_eq_getElem hi]
  · rw [List.getElem?_eq_none (by rw [putRes_len]; omega), List.getElem?_eq_none (by omega)]
/-- In any order that may be the same comes. -/
theorem adm_all (l : List TxA) (hg : ∀ i, i < l.length → Good (gX l i)) (picks : List Nat) (s : List Int) (h : Adm l (List.range l.length) picks) (R0 : List (Bool × List Int)) (h0 : R0.length = l.length) :
    serEnd s (picks.map (gX l)) = serEnd s l ∧ putRes R0 picks (serRes s (picks.map (gX l))) = serRes s l := by
  have hid : (List.range l.length).map (gX l) = l := by
    refine List.ext_getElem? fun i => ?_
    by_cases hi : i < l.length
    · simp [gX, hi, List.getD]
    · simp [hi]
  obtain ⟨h1, h2⟩ := adm_same l hg picks (List.range l.length) s (List.pairwise_lt_range) (fun i hi => List.mem_range.1 hi) h
  rw [hid] at h1 h2
  refine ⟨h1, putRes_perm _ _ _ _ (by rw [serRes_len, List.length_map]) (by rw [serRes_len]; exact h0) ?_⟩
  rw [serRes_len]
  exact h2
end Go.Proofs.YtebjkmknhpgemaaGreat
