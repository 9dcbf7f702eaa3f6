/-
  store.Apply; and the document's own apply, ApplyOf and SerialOf.
  Conditions: what they are handed can be read.
-/
import Derived.Test.YtikolifbljnokaaStoreG
import Derived.WalkKit
import Derived.WalkSpells
import Derived.WalkLawsBesides
import Derived.Defers
import Derived.Recover
import Derived.ProofKit
import Derived.Deep.RegionHeld
import Derived.Deep.RegionHeld3
import Derived.Deep.DeepCutAuto
import Derived.BigQuiet
import Derived.Laws.AppendOwnNone
import Derived.Deep.RegionLaw
import Derived.OpenShut
import Derived.ChangeOld
import Derived.Deep.Slices
import Derived.Deep.Strs
import Derived.Lib.SmallJoins
namespace Go.Proofs.Ytikolifbljnokaa
open Go.RowKit

theorem isTxs_one (w : World) (x : TxA) (n : Nat) (hn : n = w.heap.size) (hx : IsX w x) : IsTxs (w.alloc (.cells #[.slice x.ra x.rs.length x.rc, .slice x.ga x.gs.length x.gc, .slice x.sa x.ss.length x.sc] 26)) (some ⟨n, 0, none⟩) [x] := by
  subst hn
  intro i hi
  have hi0 : i = 0 := by simpa using hi
  subst hi0
  exact ⟨w.heap.size, 0, rfl, by simp, by simp, by simp, by simp, hx.below (grow_alloc (Below.refl _ _) _)⟩

/-- What Apply tells. -/
def apE (s : List Int) (x : TxA) : Int := serE s [x]
def apEnd (s : List Int) (x : TxA) : List Int := sEnd s [x]
def apD (s : List Int) (x : TxA) : Bool := if serE s [x] = 0 then aDone s x else false
def apV (s : List Int) (x : TxA) : List Int := if serE s [x] = 0 then aVals s x else []

variable (sa : Option Addr) (sc : Nat) (s : List Int)

end Go.Proofs.Ytikolifbljnokaa

/-
  The document's own apply: one transaction at a store.
  Conditions: what it is handed can be read, and has no error.
-/
namespace Go.Proofs.Ytikolifbljnokaa
open Go.RowKit

theorem grownBy_drew2 {w w' : World} {row : Option Nat} (h : w.grownBy w' row) : w.grownBy w'.drew row := ⟨h.os, h.tape, h.output, h.size, h.block⟩

variable (sa : Option Addr) (sc : Nat) (s : List Int) (ra ga ta : Option Addr) (rc gc tc : Nat) (rs : List Int) (gs : List Gd) (ss : List St)

theorem news_ints {w : World} {s : List Int} {ad : Addr} (hs : IsInts w (some ad) s) : ∀ j u, (s.map (Value.int .i64))[j]? = some u → w.cell? (ad.add j) = some u := by
  intro j u hj
  have hlt : j < s.length := by
    have := (List.getElem?_eq_some_iff.1 hj).1
    simpa using this
  obtain ⟨b, off, ha, hb, hc⟩ := hs j hlt
  injection ha with ha
  subst ha
  rw [add_none, hc]
  simp [hlt] at hj
  simp [List.getD, hlt, hj]

end Go.Proofs.Ytikolifbljnokaa

/-
  The document's own SerialOf, ApplyOf and SameResults.
  Conditions: what they are handed can be read.
-/
namespace Go.Proofs.Ytikolifbljnokaa
open Go.RowKit

variable (sa la : Option Addr) (sc lc : Nat) (s : List Int) (l : List TxA)

set_option maxRecDepth 100000 in
theorem serE_len {s : List Int} {l : List TxA} (h : ¬ s.length = 8) : serE s l = 1 := by
  have h1 : lenE s = 1 := if_neg h
  unfold serE
  rw [h1]
  rfl
set_option maxRecDepth 100000 in
theorem serE_chk {s : List Int} {l : List TxA} (h : s.length = 8) : serE s l = chkL l := by
  have h1 : lenE s = 0 := if_pos h
  unfold serE
  rw [h1, firstNZ, if_pos rfl, firstNZ, firstNZ]
  split <;> simp_all

end Go.Proofs.Ytikolifbljnokaa

/-
  The document's own SameResults at results that are the same, and ApplyOf.
  Conditions: what they are handed can be read.
-/
namespace Go.Proofs.Ytikolifbljnokaa
open Go.RowKit

set_option maxRecDepth 100000 in
theorem ext4r {W w' : World} {p1 p2 p3 p4 : Addr} {v1 v2 v3 v4 : Value} (hb : Below W.heap.size W w') (q1 : W.cell? p1 = some v1) (q2 : W.cell? p2 = some v2) (q3 : W.cell? p3 = some v3) (q4 : W.cell? p4 = some v4) :
    w'.cell? p1 = some v1 ∧ w'.cell? p2 = some v2 ∧ w'.cell? p3 = some v3 ∧ w'.cell? p4 = some v4 ∧ Hid (Below W.heap.size W w') := ⟨ext_cell hb q1, ext_cell hb q2, ext_cell hb q3, ext_cell hb q4, hb⟩

set_option maxRecDepth 100000 in
set_option maxHeartbeats 2000000 in
theorem sameResults_eq (R : List (Bool × List Int)) (a a' : Option Addr) (c c' : Nat) (w : World) (hR : R.length ≤ 100) (hI : ∀ r ∈ R, r.2.length ≤ 100) (h1 : IsRes w a R) (h2 : IsRes w a' R) :
    Calls Try.prog 24 #[.slice a R.length c, .slice a' R.length c'] w fun e w' => e = .returned (.bool true) ∧ Below w.heap.size w w' := by
  go_enter Try.func24, Try.ntmps24
  go_wp2
  go_loopw [5] (fun i wr => ∃ k : Nat, k ≤ R.length ∧ i = .int .i64 k ∧ Below w.heap.size w wr) (fun i _ => R.length - (intOf i).toNat)
  case atStart => exact ⟨0, Nat.zero_le _, rfl, Below.refl _ _⟩
  case round =>
    obtain ⟨k, hk, rfl, hnx⟩ := hrel
    by_cases hlt : k < R.length
    · obtain ⟨b, off, va, vc, rfl, hb, c0, c1, hz⟩ := h1 k hlt
      obtain ⟨b', off', va', vc', rfl, hb', e0, e1, hz'⟩ := h2 k hlt
      have hm : R.getD k (false, []) ∈ R := by simp [List.getD, hlt]
      have hl := hI _ hm
      have d0 := ext_cell hnx c0
      have d1 := ext_cell hnx c1
      have f0 := ext_cell hnx e0
      have f1 := ext_cell hnx e1
      have HZ : Hid (IsInts wr va (R.getD k (false, [])).2) := hz.below hnx
      have HZ' : Hid (IsInts wr va' (R.getD k (false, [])).2) := hz'.below hnx
      generalize R.getD k (false, []) = r at *
      obtain ⟨D, Z⟩ := r
      simp only at d0 d1 f0 f1 hl
      have hzl : Hid (Z.length ≤ maxLen) := by show _ ≤ _; unfold maxLen; omega
      have hnx' : Hid (Below w.heap.size w wr) := hnx
      clear c0 c1 e0 e1 hz hz' hm h1 h2 hI hnx hl
      have i1 : (0 : Int) ≤ (k : Int) := by omega
      have i2 : (k : Int) < (R.length : Int) := by omega
      have hKS : Hid (∀ w', Below wr.heap.size wr w' → w'.cell? ⟨b, off + k * 2, none⟩ = some (.bool D) ∧ w'.cell? ⟨b, off + k * 2 + 1, none⟩ = some (.slice va Z.length vc) ∧ w'.cell? ⟨b', off' + k * 2, none⟩ = some (.bool D) ∧ w'.cell? ⟨b', off' + k * 2 + 1, none⟩ = some (.slice va' Z.length vc') ∧ Hid (Below wr.heap.size wr w')) := fun w' h => ext4r h d0 d1 f0 f1
      go_wp2
      go_region_held3 (fun w' => w'.cell? ⟨b, off + k * 2, none⟩ = some (.bool D) ∧ w'.cell? ⟨b, off + k * 2 + 1, none⟩ = some (.slice va Z.length vc) ∧ w'.cell? ⟨b', off' + k * 2, none⟩ = some (.bool D) ∧ w'.cell? ⟨b', off' + k * 2 + 1, none⟩ = some (.slice va' Z.length vc') ∧ Hid (Below wr.heap.size wr w')) ((refine hKS.out _ ?_; go_split_ands; repeat (first | assumption | exact Below.refl _ _ | exact Hid.out (by assumption) | refine grow_drew ?_ | refine grow_alloc ?_ _ | refine grow_trans ?_ (by assumption))))
        (first
          | (go_at_call 23; refine (sameInts_any Z Z va va' vc vc' _ hzl.out ?_ ?_).mono ?_; (refine HZ.out.below ?_; go_split_ands; exact Hid.out (by assumption)); (refine HZ'.out.below ?_; go_split_ands; exact Hid.out (by assumption)); rintro e w' ⟨rfl, hbx⟩))
      go_split_ands
      have RB : ∃ wx, wx = w' ∧ Below w.heap.size w wx := ⟨_, rfl, grow_trans hnx'.out (Hid.out (by assumption))⟩
      obtain ⟨wx, rfl, RB⟩ := RB
      clear hKS d0 d1 f0 f1 HZ HZ'
      go_wp2
      go_roundw
      case rel => exact ⟨k + 1, by omega, by go_num, RB⟩
      case measure => simp [intOf]; omega
    · clear h1 h2
      go_wp2
      go_ret
      exact ⟨rfl, hnx⟩

variable (sa : Option Addr) (sc : Nat) (s : List Int) (ra ga ta : Option Addr) (rc gc tc : Nat) (rs : List Int) (gs : List Gd) (ss : List St)

set_option maxRecDepth 100000 in
theorem chkL_one (x : TxA) : chkL [x] = chkX x := by
  unfold chkL
  rw [if_neg (by simp)]
  simp only [List.map_cons, List.map_nil, firstNZ]
  split <;> simp_all

def apF (s : List Int) (x : TxA) : List Int := if serE s [x] = 0 then aEnd s x else []

end Go.Proofs.Ytikolifbljnokaa

/-
  The first look of the statements on stores (storeBegun) finds what it must.
  Conditions: none.
-/
namespace Go.Proofs.Ytikolifbljnokaa
open Go.RowKit

set_option maxRecDepth 100000 in
theorem some_of_ints {w : World} {a : Option Addr} {z : Int} {t : List Int} {c : Nat} (h : IsInts w a (z :: t)) : a = none → c = 0 := fun e => by
  obtain ⟨b, off, ha, _⟩ := h 0 (by simp)
  rw [e] at ha
  cases ha
set_option maxRecDepth 100000 in
theorem some_of_gs {w : World} {a : Option Addr} {z : Gd} {t : List Gd} {c : Nat} (h : IsGs w a (z :: t)) : a = none → c = 0 := fun e => by
  obtain ⟨b, off, ha, _⟩ := h 0 (by simp)
  rw [e] at ha
  cases ha
set_option maxRecDepth 100000 in
theorem some_of_ss {w : World} {a : Option Addr} {z : St} {t : List St} {c : Nat} (h : IsSs w a (z :: t)) : a = none → c = 0 := fun e => by
  obtain ⟨b, off, ha, _⟩ := h 0 (by simp)
  rw [e] at ha
  cases ha

set_option maxRecDepth 100000 in
theorem isTxs_three (w : World) (x y z : TxA) (n : Nat) (hn : n = w.heap.size) (hx : IsX w x) (hy : IsX w y) (hz : IsX w z) : IsTxs (w.alloc (.cells #[.slice x.ra x.rs.length x.rc, .slice x.ga x.gs.length x.gc, .slice x.sa x.ss.length x.sc, .slice y.ra y.rs.length y.rc, .slice y.ga y.gs.length y.gc, .slice y.sa y.ss.length y.sc, .slice z.ra z.rs.length z.rc, .slice z.ga z.gs.length z.gc, .slice z.sa z.ss.length z.sc] 26)) (some ⟨n, 0, none⟩) [x, y, z] := by
  subst hn
  intro i hi
  have hi3 : i < 3 := by simpa using hi
  match i, hi3 with
  | 0, _ => exact ⟨w.heap.size, 0, rfl, by simp, by simp, by simp, by simp, hx.below (grow_alloc (Below.refl _ _) _)⟩
  | 1, _ => exact ⟨w.heap.size, 0, rfl, by simp, by simp, by simp, by simp, hy.below (grow_alloc (Below.refl _ _) _)⟩
  | 2, _ => exact ⟨w.heap.size, 0, rfl, by simp, by simp, by simp, by simp, hz.below (grow_alloc (Below.refl _ _) _)⟩

set_option maxRecDepth 100000 in
theorem isInts_eight (w : World) (n : Nat) (a b c d e f g h : Int) (hn : n = w.heap.size) : IsInts (w.alloc (.cells #[.int .i64 a, .int .i64 b, .int .i64 c, .int .i64 d, .int .i64 e, .int .i64 f, .int .i64 g, .int .i64 h] 3)) (some ⟨n, 0, none⟩) [a, b, c, d, e, f, g, h] := by
  subst hn
  intro i hi
  have hi8 : i < 8 := by simpa using hi
  refine ⟨w.heap.size, 0, rfl, by simp, ?_⟩
  match i, hi8 with
  | 0, _ => simp
  | 1, _ => simp
  | 2, _ => simp
  | 3, _ => simp
  | 4, _ => simp
  | 5, _ => simp
  | 6, _ => simp
  | 7, _ => simp

def S0 : List Int := [5, 1, 0, 0, 0, 0, 0, 0]
def S7 : List Int := [5, 1, 0, 0, 0, 0, 0]
abbrev xPay (ra ga sa : Option Addr) (rc gc sc : Nat) : TxA := ⟨ra, ga, sa, rc, gc, sc, [0, 1], [gPay 3], [s1Pay 3, s2Pay 3]⟩
abbrev xNote (ra sa : Option Addr) (rc sc : Nat) : TxA := ⟨ra, none, sa, rc, 0, sc, [1], [], [sNote]⟩
section
variable (ra ga sa ra' ga' sa' ra2 sa2 : Option Addr) (rc gc sc rc' gc' sc' rc2 sc2 : Nat)
set_option maxRecDepth 100000 in
theorem begE1 : serE S0 [xPay ra ga sa rc gc sc] = 0 := by
  rw [serE_chk rfl, chkL_one]
  exact pE
set_option maxRecDepth 100000 in
theorem begF1 : apF S0 (xPay ra ga sa rc gc sc) = [2, 4, 0, 0, 0, 0, 0, 0] := by
  unfold apF
  rw [if_pos (begE1 ra ga sa rc gc sc)]
  show putAll S0 (keysOf [s1Pay 3, s2Pay 3]) (madeOf (rdOf S0 [0, 1]) [gPay 3] [s1Pay 3, s2Pay 3]) = _
  decide +kernel
set_option maxRecDepth 100000 in
theorem begD1 : apD S0 (xPay ra ga sa rc gc sc) = true := by
  unfold apD
  rw [if_pos (begE1 ra ga sa rc gc sc)]
  show allG (rdOf S0 [0, 1]) [gPay 3] = true
  decide +kernel
set_option maxRecDepth 100000 in
theorem begE3 : serE S0 [xPay ra ga sa rc gc sc, xPay ra' ga' sa' rc' gc' sc', xNote ra2 sa2 rc2 sc2] = 0 := by
  rw [serE_chk rfl]
  show firstNZ [chkTx [0, 1] [gPay 3] [s1Pay 3, s2Pay 3], chkTx [0, 1] [gPay 3] [s1Pay 3, s2Pay 3], chkTx [1] [] [sNote]] = 0
  rw [pE, nE]
  rfl
set_option maxRecDepth 100000 in
theorem begS3 : sEnd S0 [xPay ra ga sa rc gc sc, xPay ra' ga' sa' rc' gc' sc', xNote ra2 sa2 rc2 sc2] = [2, 4, 0, 0, 0, 4, 0, 0] := by
  unfold sEnd
  rw [if_pos (begE3 ra ga sa ra' ga' sa' ra2 sa2 rc gc sc rc' gc' sc' rc2 sc2)]
  have h1 : aEnd S0 (xPay ra ga sa rc gc sc) = [2, 4, 0, 0, 0, 0, 0, 0] := by
    show putAll S0 (keysOf [s1Pay 3, s2Pay 3]) (madeOf (rdOf S0 [0, 1]) [gPay 3] [s1Pay 3, s2Pay 3]) = _
    decide +kernel
  have h2 : aEnd [2, 4, 0, 0, 0, 0, 0, 0] (xPay ra' ga' sa' rc' gc' sc') = [2, 4, 0, 0, 0, 0, 0, 0] := by
    show putAll [2, 4, 0, 0, 0, 0, 0, 0] (keysOf [s1Pay 3, s2Pay 3]) (madeOf (rdOf [2, 4, 0, 0, 0, 0, 0, 0] [0, 1]) [gPay 3] [s1Pay 3, s2Pay 3]) = _
    decide +kernel
  have h3 : aEnd [2, 4, 0, 0, 0, 0, 0, 0] (xNote ra2 sa2 rc2 sc2) = [2, 4, 0, 0, 0, 4, 0, 0] := by
    show putAll [2, 4, 0, 0, 0, 0, 0, 0] (keysOf [sNote]) (madeOf (rdOf [2, 4, 0, 0, 0, 0, 0, 0] [1]) [] [sNote]) = _
    decide +kernel
  simp only [serEnd, h1, h2, h3]
set_option maxRecDepth 100000 in
theorem begR3 : sRes S0 [xPay ra ga sa rc gc sc, xPay ra' ga' sa' rc' gc' sc', xNote ra2 sa2 rc2 sc2] = [(true, [5, 1]), (false, [2, 4]), (true, [4])] := by
  unfold sRes
  rw [if_pos (begE3 ra ga sa ra' ga' sa' ra2 sa2 rc gc sc rc' gc' sc' rc2 sc2)]
  have h1 : aEnd S0 (xPay ra ga sa rc gc sc) = [2, 4, 0, 0, 0, 0, 0, 0] := by
    show putAll S0 (keysOf [s1Pay 3, s2Pay 3]) (madeOf (rdOf S0 [0, 1]) [gPay 3] [s1Pay 3, s2Pay 3]) = _
    decide +kernel
  have h2 : aEnd [2, 4, 0, 0, 0, 0, 0, 0] (xPay ra' ga' sa' rc' gc' sc') = [2, 4, 0, 0, 0, 0, 0, 0] := by
    show putAll [2, 4, 0, 0, 0, 0, 0, 0] (keysOf [s1Pay 3, s2Pay 3]) (madeOf (rdOf [2, 4, 0, 0, 0, 0, 0, 0] [0, 1]) [gPay 3] [s1Pay 3, s2Pay 3]) = _
    decide +kernel
  have d1 : aDone S0 (xPay ra ga sa rc gc sc) = true := by
    show allG (rdOf S0 [0, 1]) [gPay 3] = true
    decide +kernel
  have d2 : aDone [2, 4, 0, 0, 0, 0, 0, 0] (xPay ra' ga' sa' rc' gc' sc') = false := by
    show allG (rdOf [2, 4, 0, 0, 0, 0, 0, 0] [0, 1]) [gPay 3] = false
    decide +kernel
  have d3 : aDone [2, 4, 0, 0, 0, 0, 0, 0] (xNote ra2 sa2 rc2 sc2) = true := rfl
  simp only [serRes, h1, h2, d1, d2, d3]
  rfl
end
set_option maxRecDepth 100000 in
theorem beg7 : serE S7 [] = 1 := rfl

theorem isInts_take {w : World} {a : Option Addr} {l : List Int} (h : IsInts w a l) (n : Nat) : IsInts w a (l.take n) := fun i hi => by
  have hl : i < l.length := by rw [List.length_take] at hi; omega
  obtain ⟨b, off, ha, hb, hc⟩ := h i hl
  refine ⟨b, off, ha, hb, ?_⟩
  rw [hc]
  have hn : i < n := by rw [List.length_take] at hi; omega
  simp [List.getD, hn]

end Go.Proofs.Ytikolifbljnokaa

/-
  Parts of lists of transactions and results; the law's own choose.
  Conditions: those that each theorem states.
-/
namespace Go.Proofs.Ytikolifbljnokaa
open Go.ChangeShapes Go.WideShapes Go.ChangeAt Go.RowKit Go.Deep

section
variable {H : Type} {enc : TypeId × Value → H} {w : World} {base : Nat} {held : Bool}
set_option maxRecDepth 100000 in
theorem open_i {b0 : Nat} {v : Value} {d : DataW H} {p : List MemPlace} (hv : Value.okWide Try.prog w .any b0 3 v) (h : DataW.Trod enc Try.prog w base (fun _ => true) held 3 v d p) :
    ∃ n : Int, v = .int .i64 n ∧ (Lit.int .i64 n).wf = true := by
  obtain ⟨n, rfl, _, _, hw⟩ := open_int Try.underlying3 hv h
  exact ⟨n, rfl, hw⟩
end

set_option maxRecDepth 100000 in
theorem wf_bounds {c : Int} (h : (Lit.int .i64 c).wf = true) : -9223372036854775808 ≤ c ∧ c ≤ 9223372036854775807 := by
  simp only [Lit.wf, Bool.and_eq_true, decide_eq_true_eq] at h
  have e1 : IntKind.i64.min = -9223372036854775808 := by decide
  have e2 : IntKind.i64.max = 9223372036854775807 := by decide
  rw [e1, e2] at h
  exact h

set_option maxRecDepth 100000 in
theorem choose_any (c : Int) (n : Nat) (w : World) (hc : (Lit.int .i64 c).wf = true) (hn : 0 < n) (hn' : n ≤ 100) :
    Calls Try.prog 21 #[.int .i64 c, .int .i64 n] w fun e w' => ∃ k : Nat, k < n ∧ e = .returned (.int .i64 k) ∧ w' = w := by
  obtain ⟨c1, c2⟩ := wf_bounds hc
  clear hc
  by_cases h : c < 0
  · go_enter Try.func21, Try.ntmps21
    go_wp2
    go_ret
    have h1 : 0 ≤ (-(c + 1)) % (n : Int) := Int.emod_nonneg _ (by omega)
    have h2 : (-(c + 1)) % (n : Int) < n := Int.emod_lt_of_pos _ (by omega)
    refine ⟨((-(c + 1)) % (n : Int)).toNat, by omega, ?_, rfl⟩
    show Ending.returned (Value.int .i64 (-(c + 1).tmod ↑n)) = _
    rw [Int.toNat_of_nonneg h1, ← Int.neg_tmod, Int.tmod_eq_emod_of_nonneg (by omega)]
  · go_enter Try.func21, Try.ntmps21
    go_wp2
    go_ret
    have h1 : 0 ≤ c % (n : Int) := Int.emod_nonneg _ (by omega)
    have h2 : c % (n : Int) < n := Int.emod_lt_of_pos _ (by omega)
    exact ⟨(c % (n : Int)).toNat, by omega, by show Ending.returned (Value.int .i64 (c % (n : Int))) = _; rw [Int.toNat_of_nonneg h1], rfl⟩

set_option maxRecDepth 100000 in
/-- Parts of a list of transactions. -/
theorem isTxs_take {w : World} {a : Option Addr} {l : List TxA} (h : IsTxs w a l) (k : Nat) : IsTxs w a (l.take k) := fun i hi => by
  have hl : i < l.length := by rw [List.length_take] at hi; omega
  have hk : i < k := by rw [List.length_take] at hi; omega
  have e : (l.take k).getD i x0 = l.getD i x0 := by simp [List.getD, hk]
  rw [e]
  exact h i hl
set_option maxRecDepth 100000 in
theorem isTxs_drop {w : World} {b off : Nat} {l : List TxA} (h : IsTxs w (some ⟨b, off, none⟩) l) (k : Nat) : IsTxs w (some ⟨b, off + k * 3, none⟩) (l.drop k) := fun i hi => by
  have hl : k + i < l.length := by rw [List.length_drop] at hi; omega
  have e : (l.drop k).getD i x0 = l.getD (k + i) x0 := by simp [List.getD]
  rw [e]
  obtain ⟨b', off', ha, hlt, c0, c1, c2, hx⟩ := h (k + i) hl
  injection ha with ha
  injection ha with e1 e2 _
  subst e1 e2
  have q : off + (k + i) * 3 = off + k * 3 + i * 3 := by omega
  rw [q] at c0 c1 c2
  exact ⟨b, off + k * 3, rfl, hlt, c0, c1, c2, hx⟩
set_option maxRecDepth 100000 in
theorem isRes_take {w : World} {a : Option Addr} {l : List (Bool × List Int)} (h : IsRes w a l) (k : Nat) : IsRes w a (l.take k) := fun i hi => by
  have hl : i < l.length := by rw [List.length_take] at hi; omega
  have hk : i < k := by rw [List.length_take] at hi; omega
  have e : (l.take k).getD i (false, []) = l.getD i (false, []) := by simp [List.getD, hk]
  rw [e]
  exact h i hl
set_option maxRecDepth 100000 in
theorem isRes_drop {w : World} {b off : Nat} {l : List (Bool × List Int)} (h : IsRes w (some ⟨b, off, none⟩) l) (k : Nat) : IsRes w (some ⟨b, off + k * 2, none⟩) (l.drop k) := fun i hi => by
  have hl : k + i < l.length := by rw [List.length_drop] at hi; omega
  have e : (l.drop k).getD i (false, []) = l.getD (k + i) (false, []) := by simp [List.getD]
  rw [e]
  obtain ⟨b', off', va, vc, ha, hlt, c0, c1, hx⟩ := h (k + i) hl
  injection ha with ha
  injection ha with e1 e2 _
  subst e1 e2
  have q : off + (k + i) * 2 = off + k * 2 + i * 2 := by omega
  rw [q] at c0 c1
  exact ⟨b, off + k * 2, va, vc, rfl, hlt, c0, c1, hx⟩
set_option maxRecDepth 100000 in
theorem SO.form {C : Nat} {w : World} {ea xa : Option Addr} {ec xc : Nat} {E : List Int} {R : List (Bool × List Int)} (h : SO C w ea ec xa xc E R) : (xa = none ∧ xc = 0 ∧ R = []) ∨ (∃ b, xa = some ⟨b, 0, none⟩ ∧ R.length ≤ xc) := by
  obtain ⟨_, _, rl, h3, h4⟩ := h
  rcases h3.1.2 with ⟨hv, h0⟩ | ⟨g, cap, cur, hv, _, _, hnc, _⟩
  · injection hv with e1 e2 e3
    exact .inl ⟨e1, e3, List.eq_nil_of_length_eq_zero e2⟩
  · injection hv with e1 e2 e3
    exact .inr ⟨g, e1, by rw [e2, e3]; exact hnc⟩

set_option maxRecDepth 100000 in
theorem serE_part {s : List Int} {l : List TxA} (h : serE s l = 0) (m : List TxA) (hm : ∀ x ∈ m, x ∈ l) (hl : m.length ≤ l.length) (s' : List Int) (hs : s'.length = s.length) : serE s' m = 0 := by
  obtain ⟨h8, hc⟩ := serE_zero h
  rw [serE_chk (hs.trans h8)]
  have hl8 := chkL_len hc
  unfold chkL
  rw [if_neg (by omega)]
  have key : ∀ n : List TxA, (∀ x ∈ n, chkX x = 0) → firstNZ (n.map chkX) = 0 := by
    intro n
    induction n with
    | nil => intro _; rfl
    | cons y t ih =>
      intro hn
      simp only [List.map_cons, firstNZ]
      rw [if_pos (hn y (List.mem_cons_self))]
      exact ih (fun x hx => hn x (List.mem_cons_of_mem _ hx))
  refine key m (fun x hx => ?_)
  obtain ⟨k, hk, rfl⟩ := List.mem_iff_getElem.1 (hm x hx)
  have := chkL_at hc k hk
  simpa [List.getD, hk] using this

set_option maxRecDepth 100000 in
theorem serRes_at (s : List Int) (l : List TxA) (i : Nat) (h : i < l.length) : ((serRes s l).getD i (false, [])).1 = aDone (serEnd s (l.take i)) (l.getD i x0) := by
  have h1 := serRes_app (l.take i) (l.drop i) s
  rw [List.take_append_drop] at h1
  have h2 : (serRes s (l.take i)).length = i := by rw [serRes_len, List.length_take]; omega
  rw [h1]
  rw [drop_get l i x0 h]
  simp only [serRes]
  rw [List.getD_eq_getElem?_getD, List.getElem?_append_right (by omega), h2]
  simp

set_option maxRecDepth 100000 in
/-- What nobody sets stays. -/
theorem serEnd_stays : ∀ (l : List TxA) (s : List Int) (i : Nat), (∀ k, k < l.length → ((serRes s l).getD k (false, [])).1 = true → ∀ z ∈ keysOf (l.getD k x0).ss, z.toNat ≠ i) → (serEnd s l).getD i 0 = s.getD i 0
  | [], _, _, _ => rfl
  | x :: t, s, i, h => by
    rw [serEnd, serEnd_stays t (aEnd s x) i (fun k hk hd => ?_)]
    · by_cases hd : aDone s x = true
      · exact putAll_far _ _ _ _ (h 0 (by simp) (by simpa [serRes] using hd))
      · rw [aEnd_idle s x (by simpa using hd)]
    · exact h (k + 1) (by simpa using hk) (by simpa [serRes] using hd)
end Go.Proofs.Ytikolifbljnokaa

/-
  Proved: for every store and list of transactions the law StoreSerials returns true: store.Serial answers just what the document says, errors too; the arguments read afterwards as they read before.
  Conditions: none.
-/
namespace Go.Proofs.Ytikolifbljnokaa
open Go.ChangeShapes Go.WideShapes Go.ChangeAt Go.RowKit Go.Deep


theorem sEnd_small (s : List Int) (l : List TxA) : (sEnd s l).length ≤ 8 := by
  unfold sEnd
  split
  · rename_i h
    rw [serEnd_len]
    have := (serE_zero h).1
    omega
  · simp
theorem sRes_small (s : List Int) (l : List TxA) : (sRes s l).length ≤ 8 := by
  unfold sRes
  split
  · rename_i h
    rw [serRes_len]
    exact chkL_len (serE_zero h).2
  · simp
theorem serRes_vals : ∀ (l : List TxA) (s : List Int), (∀ x ∈ l, x.rs.length ≤ 4) → ∀ r ∈ serRes s l, r.2.length ≤ 4
  | [], s, _, r, hr => by cases hr
  | x :: t, s, h, r, hr => by
    rcases List.mem_cons.1 hr with rfl | hr
    · show (rdOf s x.rs).length ≤ 4
      rw [rdOf_len]
      exact h x (List.mem_cons_self)
    · exact serRes_vals t _ (fun y hy => h y (List.mem_cons_of_mem _ hy)) r hr
theorem chkL_mem {l : List TxA} (h : chkL l = 0) (x : TxA) (hx : x ∈ l) : chkX x = 0 := by
  obtain ⟨k, hk, rfl⟩ := List.mem_iff_getElem.1 hx
  have := chkL_at h k hk
  simpa [List.getD, hk] using this
theorem chkL_reads {l : List TxA} (h : chkL l = 0) : ∀ x ∈ l, x.rs.length ≤ 4 := fun x hx => by
  have h1 : chkTx x.rs x.gs x.ss = 0 := chkL_mem h x hx
  exact (many_small _ _ _ (chk_parts h1).1).1
theorem sRes_vals (s : List Int) (l : List TxA) : ∀ r ∈ sRes s l, r.2.length ≤ 100 := fun r hr => by
  unfold sRes at hr
  split at hr
  · rename_i h
    have := serRes_vals l s (chkL_reads (serE_zero h).2) r hr
    omega
  · cases hr

end Go.Proofs.Ytikolifbljnokaa

/-
  Transactions and results as rows of cells: appending a list to a row that the call owns; a list without one of its transactions.
  Conditions: those that each theorem states.
-/
namespace Go.Proofs.Ytikolifbljnokaa
open Go.RowKit

set_option maxRecDepth 100000 in
theorem Try.info26 : (Try.prog.info? 26).map (fun i => (i.zero, i.size, i.bytes)) = some (some (.agg #[.slice none 0 0, .slice none 0 0, .slice none 0 0]), 3, 72) := by kernel_rfl

def xcells (x : TxA) : List Value := [.slice x.ra x.rs.length x.rc, .slice x.ga x.gs.length x.gc, .slice x.sa x.ss.length x.sc]
def flatX : List TxA → List Value
  | [] => []
  | x :: l => xcells x ++ flatX l
theorem flatX_len : ∀ l : List TxA, (flatX l).length = l.length * 3
  | [] => rfl
  | x :: l => by simp [flatX, xcells, flatX_len l]; omega
theorem flatX_app : ∀ (l m : List TxA), flatX (l ++ m) = flatX l ++ flatX m
  | [], _ => rfl
  | x :: l, m => by simp [flatX, flatX_app l m]
theorem flatX_one : ∀ (l : List TxA), ∀ u ∈ flatX l, u.oneCell' = true
  | [], u, h => by cases h
  | x :: l, u, h => by
      simp only [flatX, List.mem_append] at h
      rcases h with h | h
      · simp only [xcells, List.mem_cons, List.not_mem_nil, or_false] at h
        rcases h with rfl | rfl | rfl <;> rfl
      · exact flatX_one l u h
theorem flatX_at : ∀ (l : List TxA) (i j : Nat), i < l.length → j < 3 → (flatX l)[i * 3 + j]? = (xcells (l.getD i x0))[j]?
  | [], i, j, h, _ => absurd h (by simp)
  | x :: l, 0, j, _, hj => by
      simp only [flatX, Nat.zero_mul, Nat.zero_add]
      rw [List.getElem?_append_left (by simpa [xcells] using hj)]
      rfl
  | x :: l, i + 1, j, h, hj => by
      simp only [flatX]
      rw [List.getElem?_append_right (by simp [xcells]; omega)]
      have e : (i + 1) * 3 + j - (xcells x).length = i * 3 + j := by simp [xcells]; omega
      rw [e, flatX_at l i j (by simpa using h) hj]
      rfl

/-- What lies at an address. -/
def Lies (w : World) (ad : Addr) (xs : List Value) : Prop := ∀ j u, xs[j]? = some u → w.cell? (ad.add j) = some u
theorem lies_txs {w : World} {b off : Nat} {l : List TxA} (h : IsTxs w (some ⟨b, off, none⟩) l) : Lies w ⟨b, off, none⟩ (flatX l) := by
  intro j u hj
  have hlt : j < l.length * 3 := by rw [← flatX_len]; exact (List.getElem?_eq_some_iff.1 hj).1
  have hi : j / 3 < l.length := by omega
  have hr : j % 3 < 3 := Nat.mod_lt _ (by decide)
  have ej : j = j / 3 * 3 + j % 3 := by omega
  obtain ⟨b', off', ha, hb, c0, c1, c2, _⟩ := h (j / 3) hi
  injection ha with ha
  injection ha with e1 e2 _
  subst e1 e2
  rw [ej, flatX_at l _ _ hi hr] at hj
  rw [add_none, ej]
  generalize j / 3 = i at *
  generalize j % 3 = r at *
  match r, hr with
  | 0, _ => simp [xcells] at hj; subst hj; simpa using c0
  | 1, _ => simp [xcells] at hj; subst hj; simpa [Nat.add_assoc] using c1
  | 2, _ => simp [xcells] at hj; subst hj; simpa [Nat.add_assoc] using c2
theorem lies_nil (w : World) (ad : Addr) : Lies w ad [] := fun j u hj => by simp at hj
theorem Lies.below {w w' : World} {b off : Nat} {xs : List Value} (h : Lies w ⟨b, off, none⟩ xs) (hb : Below w.heap.size w w') : Lies w' ⟨b, off, none⟩ xs := by
  intro j u hj
  have := h j u hj
  rw [add_none] at this ⊢
  exact ext_cell hb this

theorem txs_of_owns {w : World} {base : Nat} {v : Value} {n : Nat} {l : List TxA} (h : w.ownsRow base 26 3 v n (flatX l)) (hx : ∀ x ∈ l, IsX w x) : ∃ a cap, v = .slice a l.length cap ∧ IsTxs w a l := by
  have hn : l.length = n := by have := h.1; rw [flatX_len] at this; omega
  rcases h.2 with ⟨rfl, h0⟩ | ⟨g, cap, cur, rfl, hb, hg, hnc, hcm, hcs, htake⟩
  · refine ⟨none, 0, by rw [hn, h0], fun i hi => ?_⟩
    omega
  · refine ⟨some ⟨g, 0, none⟩, cap, by rw [hn], fun i hi => ?_⟩
    have hc := fun (j : Nat) (hj : j < 3) (u : Value) (hu : (xcells (l.getD i x0))[j]? = some u) => h.cells (g := g) rfl (i * 3 + j) u ((flatX_at l i j hi hj).trans hu)
    simp only [add_none, Nat.zero_add] at hc
    refine ⟨g, 0, rfl, (Array.getElem?_eq_some_iff.1 hg).1, ?_, ?_, ?_, ?_⟩
    · simpa using hc 0 (by omega) _ rfl
    · simpa using hc 1 (by omega) _ rfl
    · simpa using hc 2 (by omega) _ rfl
    · exact hx _ (by simp [List.getD, hi])

/-- An append of transactions to transactions that the call owns, at a step of a region that draws its order. -/
theorem step_append_xs {w : World} {ops : Array Oper} {o : Oper} {a : Act} {K : Act → World → Prop} {Q : Exit → Act → World → Prop} {E : Prop} (hgd : o.guard = none) (s x : Operand)
    (ho : o.op = .call { callee := .builtin .append, args := #[s, x], argTypes := #[27, 27] })
    (base : Nat) (v : Value) (xs : List TxA) (hs : a.eval s = v) (hown : w.ownsRow base 26 3 v xs.length (flatX xs))
    (ad : Addr) (ys : List TxA) (m c : Nat) (hx : a.eval x = .slice (some ad) m c) (hm : ys.length = m) (hnews : Lies w ad (flatX ys))
    (hsm : xs.length + ys.length ≤ 100) (W0 : World) (hbel : Below W0.heap.size W0 w) (hbs : base = W0.heap.size)
    (h : ∀ v' w', w'.ownsRow base 26 3 v' (xs ++ ys).length (flatX (xs ++ ys)) → Below W0.heap.size W0 w' → K (a.put o.dst v') w') :
    if Region.wanted o (yielded ops a.tmps) = true then Oper.wp Try.prog o a w K Q else E := by
  obtain ⟨i, hi, hz, hsz, hby⟩ := info_parts Try.info26
  have hw : Region.wanted o (yielded ops a.tmps) = true := by simp [Region.wanted, hgd]
  rw [if_pos hw]
  rw [List.length_append, flatX_app] at h
  subst hm
  unfold Oper.wp execOp
  obtain ⟨v', w', hr, h2, h3, _⟩ := run_append_own (P := Try.prog) w base 27 o.type 26 i _ 3 72 Try.underlying27 hi hz hsz hby rfl (by decide) v xs.length (flatX xs) hown ad ys.length c (flatX ys) (flatX_len ys) hnews (flatX_one ys) (by unfold maxLen; omega) (by omega) (hbs ▸ hbel.size)
  simp only [ho, resolve, invoke, builtin, Sem.run_bind, Sem.run_pure, Result.andThen_ok, List.map_toArray, List.map_cons, List.map_nil, hs, hx, hr]
  exact h v' w' h2 (Below.grown hbel h3 hbel.size (fun j hj => hbs ▸ (hown.lt j hj).1))

theorem own_empty3 (w : World) (s base : Nat) (hs : s = w.heap.size) (hb : base ≤ s) : (w.alloc (.cells #[] 26)).ownsRow base 26 3 (.slice (some ⟨s, 0, none⟩) 0 0) 0 [] := by
  subst hs
  exact World.ownsRow_lit w #[] 0 hb (by decide) rfl

/-- A row of results whose values lie anywhere. -/
theorem res_of_owns {w : World} {base : Nat} {v : Value} {n : Nat} {rl : List RsA} (h : w.ownsRow base 52 2 v n (flatR rl)) (hx : ∀ r ∈ rl, IsInts w r.va r.vs) : ∃ a cap, v = .slice a (rl.map RsA.told).length cap ∧ IsRes w a (rl.map RsA.told) := by
  have hl : (rl.map RsA.told).length = rl.length := by simp
  have hn : rl.length = n := by have := h.1; rw [flatR_len] at this; omega
  rcases h.2 with ⟨rfl, h0⟩ | ⟨g, cap, cur, rfl, hb, hg, hnc, hcm, hcs, htake⟩
  · exact ⟨none, 0, by rw [hl, hn, h0], fun i hi => by omega⟩
  · refine ⟨some ⟨g, 0, none⟩, cap, by rw [hl, hn], fun i hi => ?_⟩
    rw [hl] at hi
    obtain ⟨e0, e1⟩ := flatR_at rl i hi
    have hc := fun (j : Nat) (u : Value) (hu : (flatR rl)[j]? = some u) => h.cells (g := g) rfl j u hu
    simp only [add_none, Nat.zero_add] at hc
    have eg : (rl.map RsA.told).getD i (false, []) = (rl.getD i r0).told := by simp [List.getD, hi]
    rw [eg]
    refine ⟨g, 0, (rl.getD i r0).va, (rl.getD i r0).vc, rfl, (Array.getElem?_eq_some_iff.1 hg).1, by simpa [RsA.told] using hc _ _ e0, by simpa [RsA.told] using hc _ _ e1, ?_⟩
    exact hx _ (by simp [List.getD, hi])

/-- The same with results. -/
theorem step_append_res {w : World} {ops : Array Oper} {o : Oper} {a : Act} {K : Act → World → Prop} {Q : Exit → Act → World → Prop} {E : Prop} (s x : Operand)
    (ho : o.op = .call { callee := .builtin .append, args := #[s, x], argTypes := #[47, 47] }) (hw : Region.wanted o (yielded ops a.tmps) = true)
    (base : Nat) (v : Value) (xs : List RsA) (hs : a.eval s = v) (hown : w.ownsRow base 52 2 v xs.length (flatR xs))
    (ad : Addr) (ys : List RsA) (m c : Nat) (hx : a.eval x = .slice (some ad) m c) (hm : ys.length = m) (hnews : Lies w ad (flatR ys))
    (hsm : xs.length + ys.length ≤ 100) (W0 : World) (hbel : Below W0.heap.size W0 w) (hbs : base = W0.heap.size)
    (h : ∀ v' w', w'.ownsRow base 52 2 v' (xs ++ ys).length (flatR (xs ++ ys)) → Below W0.heap.size W0 w' → K (a.put o.dst v') w') :
    if Region.wanted o (yielded ops a.tmps) = true then Oper.wp Try.prog o a w K Q else E := by
  obtain ⟨i, hi, hz, hsz, hby⟩ := info_parts Try.info52
  rw [if_pos hw]
  rw [List.length_append, flatR_app] at h
  subst hm
  unfold Oper.wp execOp
  obtain ⟨v', w', hr, h2, h3, _⟩ := run_append_own (P := Try.prog) w base 47 o.type 52 i _ 2 32 Try.underlying47 hi hz hsz hby rfl (by decide) v xs.length (flatR xs) hown ad ys.length c (flatR ys) (flatR_len ys) hnews (flatR_one ys) (by unfold maxLen; omega) (by omega) (hbs ▸ hbel.size)
  simp only [ho, resolve, invoke, builtin, Sem.run_bind, Sem.run_pure, Result.andThen_ok, List.map_toArray, List.map_cons, List.map_nil, hs, hx, hr]
  exact h v' w' h2 (Below.grown hbel h3 hbel.size (fun j hj => hbs ▸ (hown.lt j hj).1))

theorem own_empty2 (w : World) (s base : Nat) (hs : s = w.heap.size) (hb : base ≤ s) : (w.alloc (.cells #[] 52)).ownsRow base 52 2 (.slice (some ⟨s, 0, none⟩) 0 0) 0 [] := by
  subst hs
  exact World.ownsRow_lit w #[] 0 hb (by decide) rfl

theorem flatR_part {w : World} {b : Nat} : ∀ (rl : List RsA) (k off : Nat), Lies w ⟨b, off, none⟩ (flatR rl) → Lies w ⟨b, off, none⟩ (flatR (rl.take k)) ∧ Lies w ⟨b, off + k * 2, none⟩ (flatR (rl.drop k)) := by
  intro rl k off h
  by_cases hk : k ≤ rl.length
  · have e : flatR rl = flatR (rl.take k) ++ flatR (rl.drop k) := by rw [← flatR_app, List.take_append_drop]
    have e2 : (flatR (rl.take k)).length = k * 2 := by rw [flatR_len, List.length_take, Nat.min_eq_left hk]
    constructor
    · intro j u hj
      refine h j u ?_
      rw [e, List.getElem?_append_left (List.getElem?_eq_some_iff.1 hj).1]
      exact hj
    · intro j u hj
      have := h (k * 2 + j) u (by rw [e, List.getElem?_append_right (by omega), e2]; simpa using hj)
      rw [add_none] at this ⊢
      rw [Nat.add_assoc]
      exact this
  · rw [List.take_of_length_le (by omega), List.drop_eq_nil_of_le (by omega)]
    exact ⟨h, lies_nil _ _⟩

theorem lies_row {w : World} {base : Nat} {g n n' cap : Nat} {xs : List Value} (h : w.ownsRow base 52 2 (.slice (some ⟨g, 0, none⟩) n' cap) n xs) : Lies w ⟨g, 0, none⟩ xs := fun j u hj => h.cells (g := g) rfl j u hj

/-- Who is not done changes nothing. -/
theorem ser_less (s : List Int) (l : List TxA) (k : Nat) (hk : k < l.length) (hd : ((serRes s l).getD k (false, [])).1 = false) :
    serEnd s (l.take k ++ l.drop (k + 1)) = serEnd s l ∧ serRes s (l.take k ++ l.drop (k + 1)) = (serRes s l).take k ++ (serRes s l).drop (k + 1) := by
  have e : l = l.take k ++ (l.getD k x0 :: l.drop (k + 1)) := by
    rw [← drop_get l k x0 hk, List.take_append_drop]
  rw [serRes_at s l k hk] at hd
  have hi := aEnd_idle _ _ hd
  have e1 : serEnd s l = serEnd (serEnd s (l.take k)) (l.drop (k + 1)) := by
    conv => lhs; rw [e]
    rw [serEnd_app, serEnd, hi]
  have hL : (serRes s (l.take k)).length = k := by rw [serRes_len, List.length_take]; omega
  have e2 : serRes s l = serRes s (l.take k) ++ ((aDone (serEnd s (l.take k)) (l.getD k x0), aVals (serEnd s (l.take k)) (l.getD k x0)) :: serRes (serEnd s (l.take k)) (l.drop (k + 1))) := by
    conv => lhs; rw [e]
    rw [serRes_app, serRes, hi]
  constructor
  · rw [serEnd_app, e1]
  · rw [serRes_app, e2, List.take_left' hL]
    congr 1
    have e3 : k + 1 - (serRes s (l.take k)).length = 1 := by omega
    have e4 : (serRes s (l.take k)).drop (k + 1) = [] := List.drop_eq_nil_of_le (by omega)
    rw [List.drop_append, e4, e3]
    rfl

theorem sameStore (a a' : Option Addr) (c c' : Nat) (E : List Int) (h8 : E.length = 8) : ∀ w', IsInts w' a E → IsInts w' a' E → Calls Try.prog 23 #[.slice a 8 c, .slice a' 8 c'] w' fun e w'' => e = .returned (.bool true) ∧ Below w'.heap.size w' w'' := fun w' q1 q2 => by
  have h := sameInts_any E E a a' c c' w' (by rw [h8]; decide) q1 q2
  rw [h8] at h
  exact h.mono fun e w'' ⟨h1, h2⟩ => ⟨by rw [h1]; simp, h2⟩
theorem vals_few {s : List Int} {l : List TxA} (hE : serE s l = 0) : ∀ r ∈ serRes s l, r.2.length ≤ 100 := by
  have h := sRes_vals s l
  have e : sRes s l = serRes s l := if_pos hE
  rw [e] at h
  exact h
theorem hid_in {p : Prop} (h : p) : Hid p := h
end Go.Proofs.Ytikolifbljnokaa
