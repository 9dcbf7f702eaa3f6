/-
  
  Conditions: those that each theorem states.
-/
import Derived.Test.YtcgpkonfneofdaaGreatSStoreG
import Derived.Laws.AppendOwnNone
set_option maxRecDepth 100000
namespace Go.Proofs.YtcgpkonfneofdaaGreat
open Go.RowKit
theorem some_of_ints {w : World} {a : Option Addr} {z : Int} {t : List Int} {c : Nat} (h : IsInts w a (z :: t)) : a = none → c = 0 := fun e => by
 obtain ⟨b, off, ha, _⟩ := h 0 (by simp)
 rw [e] at ha
 cases ha
theorem some_of_gs {w : World} {a : Option Addr} {z : Gd} {t : List Gd} {c : Nat} (h : IsGs w a (z :: t)) : a = none → c = 0 := fun e => by
 obtain ⟨b, off, ha, _⟩ := h 0 (by simp)
 rw [e] at ha
 cases ha
theorem some_of_ss {w : World} {a : Option Addr} {z : St} {t : List St} {c : Nat} (h : IsSs w a (z :: t)) : a = none → c = 0 := fun e => by
 obtain ⟨b, off, ha, _⟩ := h 0 (by simp)
 rw [e] at ha
 cases ha
theorem isTxs_three (w : World) (x y z : TxA) (n : Nat) (hn : n = w.heap.size) (hx : IsX w x) (hy : IsX w y) (hz : IsX w z) : IsTxs (w.alloc (.cells #[.slice x.ra x.rs.length x.rc, .slice x.ga x.gs.length x.gc, .slice x.sa x.ss.length x.sc, .slice y.ra y.rs.length y.rc, .slice y.ga y.gs.length y.gc, .slice y.sa y.ss.length y.sc, .slice z.ra z.rs.length z.rc, .slice z.ga z.gs.length z.gc, .slice z.sa z.ss.length z.sc] 61)) (some ⟨n, 0, none⟩) [x, y, z] := by
 subst hn
 intro i hi
 have hi3 : i < 3 := by simpa using hi
 match i, hi3 with
 | 0, _ => exact ⟨w.heap.size, 0, rfl, by simp, by simp, by simp, by simp, hx.below (grow_alloc (Below.refl _ _) _)⟩
 | 1, _ => exact ⟨w.heap.size, 0, rfl, by simp, by simp, by simp, by simp, hy.below (grow_alloc (Below.refl _ _) _)⟩
 | 2, _ => exact ⟨w.heap.size, 0, rfl, by simp, by simp, by simp, by simp, hz.below (grow_alloc (Below.refl _ _) _)⟩
abbrev xPay (ra ga sa : Option Addr) (rc gc sc : Nat) : TxA := ⟨ra, ga, sa, rc, gc, sc, [0, 1], [gPay 3], [s1Pay 3, s2Pay 3]⟩
abbrev xNote (ra sa : Option Addr) (rc sc : Nat) : TxA := ⟨ra, none, sa, rc, 0, sc, [1], [], [sNote]⟩
section
variable (ra ga sa ra' ga' sa' ra2 sa2 : Option Addr) (rc gc sc rc' gc' sc' rc2 sc2 : Nat)
end
end Go.Proofs.YtcgpkonfneofdaaGreat
namespace Go.Proofs.YtcgpkonfneofdaaGreat
open Go.ChangeShapes Go.WideShapes Go.ChangeAt Go.RowKit Go.Deep
section
variable {H : Type} {enc : TypeId × Value → H} {w : World} {base : Nat} {held : Bool}
end
theorem wf_bounds {c : Int} (h : (Lit.int .i64 c).wf = true) : -9223372036854775808 ≤ c ∧ c ≤ 9223372036854775807 := by
 simp only [Lit.wf, Bool.and_eq_true, decide_eq_true_eq] at h
 have e1 : IntKind.i64.min = -9223372036854775808 := by decide
 have e2 : IntKind.i64.max = 9223372036854775807 := by decide
 rw [e1, e2] at h
 exact h
end Go.Proofs.YtcgpkonfneofdaaGreat
namespace Go.Proofs.YtcgpkonfneofdaaGreat
open Go.RowKit
theorem serRes_vals : ∀ (l : List TxA) (s : List Int), (∀ x ∈ l, x.rs.length ≤ 4) → ∀ r ∈ serRes s l, r.2.length ≤ 4
 | [], s, _, r, hr => by cases hr
 | x :: t, s, h, r, hr => by
  rcases List.mem_cons.1 hr with rfl | hr
  ·show (rdOf s x.rs).length ≤ 4
   rw [rdOf_len]
   exact h x (List.mem_cons_self)
  ·exact serRes_vals t _ (fun y hy => h y (List.mem_cons_of_mem _ hy)) r hr
theorem chkL_mem {l : List TxA} (h : chkL l = 0) (x : TxA) (hx : x ∈ l) : chkX x = 0 := by
 obtain ⟨k, hk, rfl⟩ := List.mem_iff_getElem.1 hx
 have := chkL_at h k hk
 simpa [List.getD, hk] using this
theorem chkL_reads {l : List TxA} (h : chkL l = 0) : ∀ x ∈ l, x.rs.length ≤ 4 := fun x hx => by
 have h1 : chkTx x.rs x.gs x.ss = 0 := chkL_mem h x hx
 exact (many_small _ _ _ (chk_parts h1).1).1
theorem sRes_vals (s : List Int) (l : List TxA) : ∀ r ∈ sRes s l, r.2.length ≤ 100 := fun r hr => by
 unfold sRes at hr
 split at hr
 ·rename_i h
  have := serRes_vals l s (chkL_reads (serE_zero h).2) r hr
  omega
 ·cases hr
end Go.Proofs.YtcgpkonfneofdaaGreat
