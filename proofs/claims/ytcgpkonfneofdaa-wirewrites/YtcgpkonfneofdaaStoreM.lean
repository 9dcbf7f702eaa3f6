/-
  Parts of lists of transactions and results; the law's own choose.
  Conditions: those that each theorem states.
-/
import Derived.Test.YtcgpkonfneofdaaStoreL
import Derived.WalkKit
import Derived.WalkSpells
import Derived.WalkLawsBesides
import Derived.ProofKit
import Derived.OpenShut
import Derived.ChangeOld
import Derived.Deep.Slices
import Derived.Deep.Strs
import Derived.Deep.RegionHeld
import Derived.Deep.RegionHeld3
import Derived.BigQuiet
import Derived.Lib.SmallJoins
namespace Go.Proofs.Ytcgpkonfneofdaa
open Go.ChangeShapes Go.WideShapes Go.ChangeAt Go.RowKit Go.Deep

section
variable {H : Type} {enc : TypeId × Value → H} {w : World} {base : Nat} {held : Bool}
set_option maxRecDepth 100000 in
theorem open_i {b0 : Nat} {v : Value} {d : DataW H} {p : List MemPlace} (hv : Value.okWide Try.prog w .any b0 3 v) (h : DataW.Trod enc Try.prog w base (fun _ => true) held 3 v d p) :
    ∃ n : Int, v = .int .i64 n ∧ (Lit.int .i64 n).wf = true := by
  obtain ⟨n, rfl, _, _, hw⟩ := open_int Try.underlying3 hv h
  exact ⟨n, rfl, hw⟩
end

set_option maxRecDepth 100000 in
theorem wf_bounds {c : Int} (h : (Lit.int .i64 c).wf = true) : -9223372036854775808 ≤ c ∧ c ≤ 9223372036854775807 := by
  simp only [Lit.wf, Bool.and_eq_true, decide_eq_true_eq] at h
  have e1 : IntKind.i64.min = -9223372036854775808 := by decide
  have e2 : IntKind.i64.max = 9223372036854775807 := by decide
  rw [e1, e2] at h
  exact h

set_option maxRecDepth 100000 in
theorem choose_any (c : Int) (n : Nat) (w : World) (hc : (Lit.int .i64 c).wf = true) (hn : 0 < n) (hn' : n ≤ 100) :
    Calls Try.prog 14 #[.int .i64 c, .int .i64 n] w fun e w' => ∃ k : Nat, k < n ∧ e = .returned (.int .i64 k) ∧ w' = w := by
  obtain ⟨c1, c2⟩ := wf_bounds hc
  clear hc
  by_cases h : c < 0
  · go_enter Try.func14, Try.ntmps14
    go_wp2
    go_ret
    have h1 : 0 ≤ (-(c + 1)) % (n : Int) := Int.emod_nonneg _ (by omega)
    have h2 : (-(c + 1)) % (n : Int) < n := Int.emod_lt_of_pos _ (by omega)
    refine ⟨((-(c + 1)) % (n : Int)).toNat, by omega, ?_, rfl⟩
    show Ending.returned (Value.int .i64 (-(c + 1).tmod ↑n)) = _
    rw [Int.toNat_of_nonneg h1, ← Int.neg_tmod, Int.tmod_eq_emod_of_nonneg (by omega)]
  · go_enter Try.func14, Try.ntmps14
    go_wp2
    go_ret
    have h1 : 0 ≤ c % (n : Int) := Int.emod_nonneg _ (by omega)
    have h2 : c % (n : Int) < n := Int.emod_lt_of_pos _ (by omega)
    exact ⟨(c % (n : Int)).toNat, by omega, by show Ending.returned (Value.int .i64 (c % (n : Int))) = _; rw [Int.toNat_of_nonneg h1], rfl⟩

set_option maxRecDepth 100000 in
/-- Parts of a list of transactions. -/
theorem isTxs_take {w : World} {a : Option Addr} {l : List TxA} (h : IsTxs w a l) (k : Nat) : IsTxs w a (l.take k) := fun i hi => by
  have hl : i < l.length := by rw [List.length_take] at hi; omega
  have hk : i < k := by rw [List.length_take] at hi; omega
  have e : (l.take k).getD i x0 = l.getD i x0 := by simp [List.getD, hk]
  rw [e]
  exact h i hl
set_option maxRecDepth 100000 in
theorem isTxs_drop {w : World} {b off : Nat} {l : List TxA} (h : IsTxs w (some ⟨b, off, none⟩) l) (k : Nat) : IsTxs w (some ⟨b, off + k * 3, none⟩) (l.drop k) := fun i hi => by
  have hl : k + i < l.length := by rw [List.length_drop] at hi; omega
  have e : (l.drop k).getD i x0 = l.getD (k + i) x0 := by simp [List.getD]
  rw [e]
  obtain ⟨b', off', ha, hlt, c0, c1, c2, hx⟩ := h (k + i) hl
  injection ha with ha
  injection ha with e1 e2 _
  subst e1 e2
  have q : off + (k + i) * 3 = off + k * 3 + i * 3 := by omega
  rw [q] at c0 c1 c2
  exact ⟨b, off + k * 3, rfl, hlt, c0, c1, c2, hx⟩
set_option maxRecDepth 100000 in
theorem isRes_take {w : World} {a : Option Addr} {l : List (Bool × List Int)} (h : IsRes w a l) (k : Nat) : IsRes w a (l.take k) := fun i hi => by
  have hl : i < l.length := by rw [List.length_take] at hi; omega
  have hk : i < k := by rw [List.length_take] at hi; omega
  have e : (l.take k).getD i (false, []) = l.getD i (false, []) := by simp [List.getD, hk]
  rw [e]
  exact h i hl
set_option maxRecDepth 100000 in
theorem isRes_drop {w : World} {b off : Nat} {l : List (Bool × List Int)} (h : IsRes w (some ⟨b, off, none⟩) l) (k : Nat) : IsRes w (some ⟨b, off + k * 2, none⟩) (l.drop k) := fun i hi => by
  have hl : k + i < l.length := by rw [List.length_drop] at hi; omega
  have e : (l.drop k).getD i (false, []) = l.getD (k + i) (false, []) := by simp [List.getD]
  rw [e]
  obtain ⟨b', off', va, vc, ha, hlt, c0, c1, hx⟩ := h (k + i) hl
  injection ha with ha
  injection ha with e1 e2 _
  subst e1 e2
  have q : off + (k + i) * 2 = off + k * 2 + i * 2 := by omega
  rw [q] at c0 c1
  exact ⟨b, off + k * 2, va, vc, rfl, hlt, c0, c1, hx⟩
set_option maxRecDepth 100000 in
theorem SO.form {C : Nat} {w : World} {ea xa : Option Addr} {ec xc : Nat} {E : List Int} {R : List (Bool × List Int)} (h : SO C w ea ec xa xc E R) : (xa = none ∧ xc = 0 ∧ R = []) ∨ (∃ b, xa = some ⟨b, 0, none⟩ ∧ R.length ≤ xc) := by
  obtain ⟨_, _, rl, h3, h4⟩ := h
  rcases h3.1.2 with ⟨hv, h0⟩ | ⟨g, cap, cur, hv, _, _, hnc, _⟩
  · injection hv with e1 e2 e3
    exact .inl ⟨e1, e3, List.eq_nil_of_length_eq_zero e2⟩
  · injection hv with e1 e2 e3
    exact .inr ⟨g, e1, by rw [e2, e3]; exact hnc⟩

set_option maxRecDepth 100000 in
theorem serE_part {s : List Int} {l : List TxA} (h : serE s l = 0) (m : List TxA) (hm : ∀ x ∈ m, x ∈ l) (hl : m.length ≤ l.length) (s' : List Int) (hs : s'.length = s.length) : serE s' m = 0 := by
  obtain ⟨h8, hc⟩ := serE_zero h
  rw [serE_chk (hs.trans h8)]
  have hl8 := chkL_len hc
  unfold chkL
  rw [if_neg (by omega)]
  have key : ∀ n : List TxA, (∀ x ∈ n, chkX x = 0) → firstNZ (n.map chkX) = 0 := by
    intro n
    induction n with
    | nil => intro _; rfl
    | cons y t ih =>
      intro hn
      simp only [List.map_cons, firstNZ]
      rw [if_pos (hn y (List.mem_cons_self))]
      exact ih (fun x hx => hn x (List.mem_cons_of_mem _ hx))
  refine key m (fun x hx => ?_)
  obtain ⟨k, hk, rfl⟩ := List.mem_iff_getElem.1 (hm x hx)
  have := chkL_at hc k hk
  simpa [List.getD, hk] using this

set_option maxRecDepth 100000 in
theorem serRes_at (s : List Int) (l : List TxA) (i : Nat) (h : i < l.length) : ((serRes s l).getD i (false, [])).1 = aDone (serEnd s (l.take i)) (l.getD i x0) := by
  have h1 := serRes_app (l.take i) (l.drop i) s
  rw [List.take_append_drop] at h1
  have h2 : (serRes s (l.take i)).length = i := by rw [serRes_len, List.length_take]; omega
  rw [h1]
  rw [drop_get l i x0 h]
  simp only [serRes]
  rw [List.getD_eq_getElem?_getD, List.getElem?_append_right (by omega), h2]
  simp

set_option maxRecDepth 100000 in
/-- What nobody sets stays. -/
theorem serEnd_stays : ∀ (l : List TxA) (s : List Int) (i : Nat), (∀ k, k < l.length → ((serRes s l).getD k (false, [])).1 = true → ∀ z ∈ keysOf (l.getD k x0).ss, z.toNat ≠ i) → (serEnd s l).getD i 0 = s.getD i 0
  | [], _, _, _ => rfl
  | x :: t, s, i, h => by
    rw [serEnd, serEnd_stays t (aEnd s x) i (fun k hk hd => ?_)]
    · by_cases hd : aDone s x = true
      · exact putAll_far _ _ _ _ (h 0 (by simp) (by simpa [serRes] using hd))
      · rw [aEnd_idle s x (by simpa using hd)]
    · exact h (k + 1) (by simpa using hk) (by simpa [serRes] using hd)
end Go.Proofs.Ytcgpkonfneofdaa
