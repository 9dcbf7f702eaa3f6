/-
  
  Conditions: those that each theorem states.
-/
import Derived.Test.YtcgpkonfneofdaaGreatSTxnK
set_option maxRecDepth 100000
namespace Go.Proofs.YtcgpkonfneofdaaGreat
open Go.RowKit
def sNote : St := ⟨5, 1, 2, 0, 1, 0⟩
def gPay (n : Int) : Gd := ⟨4, 1, n, 2, 0⟩
def s1Pay (n : Int) : St := ⟨0, 3, 2, 0, 1, n⟩
def s2Pay (n : Int) : St := ⟨1, 2, 2, 1, 1, n⟩
theorem isInts_one (w : World) (s : Nat) (x : Int) (hs : s = w.heap.size) : IsInts (w.alloc (.cells #[.int .i64 x] 3)) (some ⟨s, 0, none⟩) [x] := by
 subst hs
 intro i hi
 refine ⟨w.heap.size, 0, rfl, by simp, ?_⟩
 match i, hi with
 | 0, _ => simp
theorem isSs_one (w : World) (s : Nat) (a b c d e f : Int) (hs : s = w.heap.size) : IsSs (w.alloc (.cells #[.int .i64 a, .int .i64 b, .int .i64 c, .int .i64 d, .int .i64 e, .int .i64 f] 106)) (some ⟨s, 0, none⟩) [⟨a, b, c, d, e, f⟩] := by
 subst hs
 intro i hi
 refine ⟨w.heap.size, 0, rfl, by simp, ?_⟩
 match i, hi with
 | 0, _ => simp
theorem isSs_two (w : World) (s : Nat) (a b c d e f a' b' c' d' e' f' : Int) (hs : s = w.heap.size) : IsSs (w.alloc (.cells #[.int .i64 a, .int .i64 b, .int .i64 c, .int .i64 d, .int .i64 e, .int .i64 f, .int .i64 a', .int .i64 b', .int .i64 c', .int .i64 d', .int .i64 e', .int .i64 f'] 106)) (some ⟨s, 0, none⟩) [⟨a, b, c, d, e, f⟩, ⟨a', b', c', d', e', f'⟩] := by
 subst hs
 intro i hi
 refine ⟨w.heap.size, 0, rfl, by simp, ?_⟩
 match i, hi with
 | 0, _ => simp
 | 1, _ => simp
theorem isGs_one (w : World) (s : Nat) (a b c d e : Int) (hs : s = w.heap.size) : IsGs (w.alloc (.cells #[.int .i64 a, .int .i64 b, .int .i64 c, .int .i64 d, .int .i64 e] 104)) (some ⟨s, 0, none⟩) [⟨a, b, c, d, e⟩] := by
 subst hs
 intro i hi
 refine ⟨w.heap.size, 0, rfl, by simp, ?_⟩
 match i, hi with
 | 0, _ => simp
theorem bV : runV [0, 1] [gPay 3] [s1Pay 3, s2Pay 3] [2, 1] = [2, 1] := by decide
end Go.Proofs.YtcgpkonfneofdaaGreat
