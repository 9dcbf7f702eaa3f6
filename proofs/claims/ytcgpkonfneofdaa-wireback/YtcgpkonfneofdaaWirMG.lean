/-
  Wire: the bytes of a value, by the document. Wire: the document's bytes of a plan.
  Conditions: those that each theorem states.
-/
import Derived.Test.YtcgpkonfneofdaaWirME
import Derived.Test.YtcgpkonfneofdaaWirMD
import Derived.WalkKit
import Derived.WalkSpells
import Derived.WalkLawsBesides
import Derived.Defers
import Derived.Recover
import Derived.ProofKit
import Derived.Deep.RegionHeld
import Derived.Deep.RegionHeld3
import Derived.Deep.RegionLaw
import Derived.Deep.DeepCutAuto
import Derived.Deep.QuietTactic
import Derived.BigQuiet
import Derived.Maps.AppendAt
import Derived.Lib.SliceRun
import Derived.Deep.AppendLies
import Derived.Lib.OwnKind
namespace Go.Proofs.Ytcgpkonfneofdaa
open Go.RowKit

theorem byte_eight (n : Int) : [IntKind.u8.wrap (n / 2 ^ 56), IntKind.u8.wrap (n / 2 ^ 48), IntKind.u8.wrap (n / 2 ^ 40), IntKind.u8.wrap (n / 2 ^ 32), IntKind.u8.wrap (n / 2 ^ 24), IntKind.u8.wrap (n / 2 ^ 16), IntKind.u8.wrap (n / 2 ^ 8), IntKind.u8.wrap n] = valL n := by
  simp only [valL, valB, IntKind.wrap_u8']
  simp only [Nat.reduceMul, Int.reducePow]
  congr 1; omega
  congr 1; omega
  congr 1; omega
  congr 1; omega
  congr 1; omega
  congr 1; omega
  congr 1; omega
  congr 1; omega
set_option maxRecDepth 100000 in
set_option maxHeartbeats 1000000 in
theorem eight_any (n : Int) (w : World) : Calls Try.prog 89 #[.int .i64 n] w fun e w' => e = .returned (.slice (some ⟨w.heap.size, 0, none⟩) 8 8) ∧ w' = w.alloc (.cells #[.int .u8 (IntKind.u8.wrap (n / 2 ^ 56)), .int .u8 (IntKind.u8.wrap (n / 2 ^ 48)), .int .u8 (IntKind.u8.wrap (n / 2 ^ 40)), .int .u8 (IntKind.u8.wrap (n / 2 ^ 32)), .int .u8 (IntKind.u8.wrap (n / 2 ^ 24)), .int .u8 (IntKind.u8.wrap (n / 2 ^ 16)), .int .u8 (IntKind.u8.wrap (n / 2 ^ 8)), .int .u8 (IntKind.u8.wrap n)] 5) := by
  go_enter Try.func89, Try.ntmps89
  go_wp2
  go_ret
  exact ⟨rfl, rfl⟩

set_option maxRecDepth 100000 in
set_option maxHeartbeats 1500000 in
theorem opBytes_any (kd n : Int) (w : World) : Calls Try.prog 58 #[.agg #[.int .i64 kd, .int .i64 n]] w fun e w' => ∃ g cap, e = .returned (.slice (some ⟨g, 0, none⟩) 9 cap) ∧ w'.ownsRow w.heap.size 5 1 (.slice (some ⟨g, 0, none⟩) 9 cap) 9 ((opB kd n).map (Value.int .u8)) ∧ Below w.heap.size w w' := by
  obtain ⟨i0, hi, hz0, hz1, hz2⟩ := info_parts Try.info5
  obtain ⟨W, hWe⟩ : ∃ W, W = w.alloc (.cells #[.int .i64 kd, .int .i64 n] 45) := ⟨_, rfl⟩
  have HWE : Hid (W = w.alloc (.cells #[.int .i64 kd, .int .i64 n] 45)) := hWe
  have c0 : W.cell? ⟨w.heap.size, 0, none⟩ = some (.int .i64 kd) := by subst hWe; simp
  have c1 : W.cell? ⟨w.heap.size, 1, none⟩ = some (.int .i64 n) := by subst hWe; simp
  have BW : Hid (Below w.heap.size w W) := by subst hWe; exact grow_alloc (Below.refl _ _) _
  have hle : w.heap.size < W.heap.size := by subst hWe; simp
  clear hWe
  have c1a : ∀ o, (W.alloc o).cell? ⟨w.heap.size, 1, none⟩ = some (.int .i64 n) := fun o => ext_cell (grow_alloc (Below.refl _ _) _) c1
  have c0a : ∀ o, (W.alloc o).cell? ⟨w.heap.size, 0, none⟩ = some (.int .i64 kd) := fun o => ext_cell (grow_alloc (Below.refl _ _) _) c0
  have OA : Hid (((W.alloc (.cells #[.int .u8 (IntKind.u8.wrap kd)] 5)).alloc (.cells #[.int .u8 (IntKind.u8.wrap (n / 2 ^ 56)), .int .u8 (IntKind.u8.wrap (n / 2 ^ 48)), .int .u8 (IntKind.u8.wrap (n / 2 ^ 40)), .int .u8 (IntKind.u8.wrap (n / 2 ^ 32)), .int .u8 (IntKind.u8.wrap (n / 2 ^ 24)), .int .u8 (IntKind.u8.wrap (n / 2 ^ 16)), .int .u8 (IntKind.u8.wrap (n / 2 ^ 8)), .int .u8 (IntKind.u8.wrap n)] 5)).drew.ownsRow w.heap.size 5 1 (.slice (some ⟨W.heap.size, 0, none⟩) 1 1) 1 [.int .u8 (IntKind.u8.wrap kd)]) := (World.ownsRow_lit W #[.int .u8 (IntKind.u8.wrap kd)] 1 (Nat.le_of_lt hle) (by decide) rfl).alloc _
  have OB : Hid (((W.alloc (.cells #[.int .u8 (IntKind.u8.wrap (n / 2 ^ 56)), .int .u8 (IntKind.u8.wrap (n / 2 ^ 48)), .int .u8 (IntKind.u8.wrap (n / 2 ^ 40)), .int .u8 (IntKind.u8.wrap (n / 2 ^ 32)), .int .u8 (IntKind.u8.wrap (n / 2 ^ 24)), .int .u8 (IntKind.u8.wrap (n / 2 ^ 16)), .int .u8 (IntKind.u8.wrap (n / 2 ^ 8)), .int .u8 (IntKind.u8.wrap n)] 5)).alloc (.cells #[.int .u8 (IntKind.u8.wrap kd)] 5)).drew.ownsRow w.heap.size 5 1 (.slice (some ⟨W.heap.size + 1, 0, none⟩) 1 1) 1 [.int .u8 (IntKind.u8.wrap kd)]) := by
    have := World.ownsRow_lit (size := 1) (base := w.heap.size) (e := 5) (W.alloc (.cells #[.int .u8 (IntKind.u8.wrap (n / 2 ^ 56)), .int .u8 (IntKind.u8.wrap (n / 2 ^ 48)), .int .u8 (IntKind.u8.wrap (n / 2 ^ 40)), .int .u8 (IntKind.u8.wrap (n / 2 ^ 32)), .int .u8 (IntKind.u8.wrap (n / 2 ^ 24)), .int .u8 (IntKind.u8.wrap (n / 2 ^ 16)), .int .u8 (IntKind.u8.wrap (n / 2 ^ 8)), .int .u8 (IntKind.u8.wrap n)] 5)) #[.int .u8 (IntKind.u8.wrap kd)] 1 (by simp; omega) (by decide) rfl
    simp only [World.size_alloc] at this
    exact this
  have NA : Hid (∀ j u, [.int .u8 (IntKind.u8.wrap (n / 2 ^ 56)), .int .u8 (IntKind.u8.wrap (n / 2 ^ 48)), .int .u8 (IntKind.u8.wrap (n / 2 ^ 40)), .int .u8 (IntKind.u8.wrap (n / 2 ^ 32)), .int .u8 (IntKind.u8.wrap (n / 2 ^ 24)), .int .u8 (IntKind.u8.wrap (n / 2 ^ 16)), .int .u8 (IntKind.u8.wrap (n / 2 ^ 8)), .int .u8 (IntKind.u8.wrap n)][j]? = some u → ((W.alloc (.cells #[.int .u8 (IntKind.u8.wrap kd)] 5)).alloc (.cells #[.int .u8 (IntKind.u8.wrap (n / 2 ^ 56)), .int .u8 (IntKind.u8.wrap (n / 2 ^ 48)), .int .u8 (IntKind.u8.wrap (n / 2 ^ 40)), .int .u8 (IntKind.u8.wrap (n / 2 ^ 32)), .int .u8 (IntKind.u8.wrap (n / 2 ^ 24)), .int .u8 (IntKind.u8.wrap (n / 2 ^ 16)), .int .u8 (IntKind.u8.wrap (n / 2 ^ 8)), .int .u8 (IntKind.u8.wrap n)] 5)).drew.cell? ((⟨W.heap.size + 1, 0, none⟩ : Addr).add j) = some u) := news_lit (W.alloc (.cells #[.int .u8 (IntKind.u8.wrap kd)] 5)) [.int .u8 (IntKind.u8.wrap (n / 2 ^ 56)), .int .u8 (IntKind.u8.wrap (n / 2 ^ 48)), .int .u8 (IntKind.u8.wrap (n / 2 ^ 40)), .int .u8 (IntKind.u8.wrap (n / 2 ^ 32)), .int .u8 (IntKind.u8.wrap (n / 2 ^ 24)), .int .u8 (IntKind.u8.wrap (n / 2 ^ 16)), .int .u8 (IntKind.u8.wrap (n / 2 ^ 8)), .int .u8 (IntKind.u8.wrap n)] 5 (W.heap.size + 1) (by simp)
  have NB : Hid (∀ j u, [.int .u8 (IntKind.u8.wrap (n / 2 ^ 56)), .int .u8 (IntKind.u8.wrap (n / 2 ^ 48)), .int .u8 (IntKind.u8.wrap (n / 2 ^ 40)), .int .u8 (IntKind.u8.wrap (n / 2 ^ 32)), .int .u8 (IntKind.u8.wrap (n / 2 ^ 24)), .int .u8 (IntKind.u8.wrap (n / 2 ^ 16)), .int .u8 (IntKind.u8.wrap (n / 2 ^ 8)), .int .u8 (IntKind.u8.wrap n)][j]? = some u → ((W.alloc (.cells #[.int .u8 (IntKind.u8.wrap (n / 2 ^ 56)), .int .u8 (IntKind.u8.wrap (n / 2 ^ 48)), .int .u8 (IntKind.u8.wrap (n / 2 ^ 40)), .int .u8 (IntKind.u8.wrap (n / 2 ^ 32)), .int .u8 (IntKind.u8.wrap (n / 2 ^ 24)), .int .u8 (IntKind.u8.wrap (n / 2 ^ 16)), .int .u8 (IntKind.u8.wrap (n / 2 ^ 8)), .int .u8 (IntKind.u8.wrap n)] 5)).alloc (.cells #[.int .u8 (IntKind.u8.wrap kd)] 5)).drew.cell? ((⟨W.heap.size, 0, none⟩ : Addr).add j) = some u) := fun j u hj => ext_cell (grow_drew (grow_alloc (Below.refl _ _) _)) (news_lit W [.int .u8 (IntKind.u8.wrap (n / 2 ^ 56)), .int .u8 (IntKind.u8.wrap (n / 2 ^ 48)), .int .u8 (IntKind.u8.wrap (n / 2 ^ 40)), .int .u8 (IntKind.u8.wrap (n / 2 ^ 32)), .int .u8 (IntKind.u8.wrap (n / 2 ^ 24)), .int .u8 (IntKind.u8.wrap (n / 2 ^ 16)), .int .u8 (IntKind.u8.wrap (n / 2 ^ 8)), .int .u8 (IntKind.u8.wrap n)] 5 W.heap.size rfl j u hj)
  go_enter Try.func58, Try.ntmps58
  go_upto_region 1 with fail
  rw [← HWE.out]
  go_region_law (first
    | (refine step_append_keep (by rfl) _ _ _ (by rfl) w.heap.size 5 i0 (.int .u8 0) 1 Try.underlying95 hi hz0 hz1 hz2 rfl (.slice (some ⟨W.heap.size, 0, none⟩) 1 1) 1 [.int .u8 (IntKind.u8.wrap kd)] (by rfl) OA.out ⟨W.heap.size + 1, 0, none⟩ 8 8 [.int .u8 (IntKind.u8.wrap (n / 2 ^ 56)), .int .u8 (IntKind.u8.wrap (n / 2 ^ 48)), .int .u8 (IntKind.u8.wrap (n / 2 ^ 40)), .int .u8 (IntKind.u8.wrap (n / 2 ^ 32)), .int .u8 (IntKind.u8.wrap (n / 2 ^ 24)), .int .u8 (IntKind.u8.wrap (n / 2 ^ 16)), .int .u8 (IntKind.u8.wrap (n / 2 ^ 8)), .int .u8 (IntKind.u8.wrap n)] (by rfl) (by rfl) NA.out (ints_oneCell .u8 [IntKind.u8.wrap (n / 2 ^ 56), IntKind.u8.wrap (n / 2 ^ 48), IntKind.u8.wrap (n / 2 ^ 40), IntKind.u8.wrap (n / 2 ^ 32), IntKind.u8.wrap (n / 2 ^ 24), IntKind.u8.wrap (n / 2 ^ 16), IntKind.u8.wrap (n / 2 ^ 8), IntKind.u8.wrap n]) (by unfold maxLen; omega) (by omega) (by simp; omega) ?_; intro v' w5 ho3 hg3 hkeep; have HO5 := hid ho3; have HG5 := hid hg3; clear ho3 hg3 hkeep)
    | (refine step_append_keep (by rfl) _ _ _ (by rfl) w.heap.size 5 i0 (.int .u8 0) 1 Try.underlying95 hi hz0 hz1 hz2 rfl (.slice (some ⟨W.heap.size + 1, 0, none⟩) 1 1) 1 [.int .u8 (IntKind.u8.wrap kd)] (by rfl) OB.out ⟨W.heap.size, 0, none⟩ 8 8 [.int .u8 (IntKind.u8.wrap (n / 2 ^ 56)), .int .u8 (IntKind.u8.wrap (n / 2 ^ 48)), .int .u8 (IntKind.u8.wrap (n / 2 ^ 40)), .int .u8 (IntKind.u8.wrap (n / 2 ^ 32)), .int .u8 (IntKind.u8.wrap (n / 2 ^ 24)), .int .u8 (IntKind.u8.wrap (n / 2 ^ 16)), .int .u8 (IntKind.u8.wrap (n / 2 ^ 8)), .int .u8 (IntKind.u8.wrap n)] (by rfl) (by rfl) NB.out (ints_oneCell .u8 [IntKind.u8.wrap (n / 2 ^ 56), IntKind.u8.wrap (n / 2 ^ 48), IntKind.u8.wrap (n / 2 ^ 40), IntKind.u8.wrap (n / 2 ^ 32), IntKind.u8.wrap (n / 2 ^ 24), IntKind.u8.wrap (n / 2 ^ 16), IntKind.u8.wrap (n / 2 ^ 8), IntKind.u8.wrap n]) (by unfold maxLen; omega) (by omega) (by simp; omega) ?_; intro v' w5 ho3 hg3 hkeep; have HO5 := hid ho3; have HG5 := hid hg3; clear ho3 hg3 hkeep)
    | (go_simp; go_at_call 89; refine (eight_any n _).mono ?_; rintro e w' ⟨rfl, rfl⟩; go_wp2_with fail))
  all_goals (
    obtain ⟨g, cap, hv, _, _⟩ := HO5.out.form (Nat.succ_pos _)
    subst hv
    go_wp2_with fail
    go_ret
    refine ⟨g, cap, rfl, ?_, ?_⟩
    · have h5 := HO5.out
      have e : [.int .u8 (IntKind.u8.wrap kd)] ++ [.int .u8 (IntKind.u8.wrap (n / 2 ^ 56)), .int .u8 (IntKind.u8.wrap (n / 2 ^ 48)), .int .u8 (IntKind.u8.wrap (n / 2 ^ 40)), .int .u8 (IntKind.u8.wrap (n / 2 ^ 32)), .int .u8 (IntKind.u8.wrap (n / 2 ^ 24)), .int .u8 (IntKind.u8.wrap (n / 2 ^ 16)), .int .u8 (IntKind.u8.wrap (n / 2 ^ 8)), .int .u8 (IntKind.u8.wrap n)] = (opB kd n).map (Value.int .u8) := by
        rw [opB, ← byte_eight n, IntKind.wrap_u8']
        rfl
      rw [e] at h5
      exact h5
    · refine (grow_trans BW.out (grow_drew (grow_alloc (grow_alloc (Below.refl _ _) _) _))).trans (Below.grown (Below.refl w.heap.size _) HG5.out (by simp; omega) (fun j hj => ?_))
      simp [Value.ownBlock] at hj
      omega)
end Go.Proofs.Ytcgpkonfneofdaa

namespace Go.Proofs.Ytcgpkonfneofdaa
open Go.RowKit

/-- What a growing row of bytes keeps: all below, and all that is no row of bytes. -/
structure BK (C : Nat) (w w' : World) : Prop where
  os : w'.os = w.os
  tape : w'.tape = w.tape
  output : w'.output = w.output
  size : w.heap.size ≤ w'.heap.size
  keep : ∀ b, b < w.heap.size → (b < C ∨ NoBytes w b) → w'.heap[b]? = w.heap[b]?
theorem BK.refl (C : Nat) (w : World) : BK C w w := ⟨rfl, rfl, rfl, Nat.le_refl _, fun _ _ _ => rfl⟩
theorem BK.trans {C : Nat} {a b c : World} (h : BK C a b) (k : BK C b c) : BK C a c :=
  ⟨k.os.trans h.os, k.tape.trans h.tape, k.output.trans h.output, Nat.le_trans h.size k.size, fun i hi hor => by
    have h1 := h.keep i hi hor
    exact (k.keep i (Nat.lt_of_lt_of_le hi h.size) (hor.imp id (fun hn c fz e => hn c fz (h1 ▸ e)))).trans h1⟩
theorem BK.ofBelow {C : Nat} {w w' : World} (h : Below w.heap.size w w') : BK C w w' := ⟨h.os, h.tape, h.output, h.size, fun b hb _ => h.block b hb⟩
theorem BK.alloc {C : Nat} {a w : World} (h : BK C a w) (o : Obj) : BK C a (w.alloc o) := h.trans (BK.ofBelow (grow_alloc (Below.refl _ _) _))
theorem BK.below {C : Nat} {w w' : World} (h : BK C w w') (hC : C ≤ w.heap.size) : Below C w w' := ⟨h.os, h.tape, h.output, h.size, fun b hb => h.keep b (by omega) (Or.inl hb)⟩
theorem BK.cell {C : Nat} {w w' : World} (h : BK C w w') {b i : Nat} {v : Value} (hc : w.cell? ⟨b, i, none⟩ = some v) (hor : b < C ∨ NoBytes w b) : w'.cell? ⟨b, i, none⟩ = some v :=
  (World.cell?_of_block (w := w) (w' := w') (a := ⟨b, i, none⟩) (h.keep b (World.block_lt_of_cell? w ⟨b, i, none⟩ hc) hor)).trans hc
theorem BK.grow {C : Nat} {w w5 : World} {v : Value} {n : Nat} {xs : List Value} (h : w.ownsRow C 5 1 v n xs) (hg : w.grownBy w5 v.ownBlock) : BK C w w5 :=
  ⟨hg.os, hg.tape, hg.output, hg.size, fun b hb hor => hg.block b hb (fun e => by
    rcases hor with h1 | h1
    · have := (h.lt b e.symm).1; omega
    · obtain ⟨c, fz, hh⟩ := Lib.ownsRow_kind h b e.symm
      exact h1 c fz hh)⟩
theorem BK.grow1 {C : Nat} {w w5 : World} {v : Value} {n : Nat} {xs : List Value} {o : Obj} (h : w.ownsRow C 5 1 v n xs) (hg : (w.alloc o).grownBy w5 v.ownBlock) : BK C w w5 := ((BK.refl C w).alloc o).trans (BK.grow (h.alloc o) hg)
theorem row_below {w w' : World} {base E size n : Nat} {v : Value} {xs : List Value} (h : w.ownsRow base E size v n xs) (hb : Below w.heap.size w w') : w'.ownsRow base E size v n xs := by
  refine h.kept (grownBy_of_below hb none) ?_
  cases ho : v.ownBlock with
  | none => exact .inl rfl
  | some j => exact .inr (fun e => by cases e)
theorem row_snoc {w : World} {C : Nat} {v : Value} {q : List Int} {x z : Int} (h : w.ownsRow C 5 1 v (q.length + 1) (q.map (Value.int .u8) ++ [.int .u8 z])) (hz : z = x % 256) : w.ownsRow C 5 1 v (q ++ [x % 256]).length ((q ++ [x % 256]).map (Value.int .u8)) := by
  subst hz
  rw [List.length_append, List.map_append]
  exact h
theorem row_nine {w : World} {C : Nat} {v : Value} {q r : List Int} (h : w.ownsRow C 5 1 v (q.length + 9) (q.map (Value.int .u8) ++ r.map (Value.int .u8))) (hr : r.length = 9) : w.ownsRow C 5 1 v (q ++ r).length ((q ++ r).map (Value.int .u8)) := by
  rw [List.length_append, List.map_append, hr]
  exact h

theorem news_two (w : World) (x y : Int) : ∀ j u, [Value.int .u8 x, Value.int .u8 y][j]? = some u → (w.alloc (.cells #[.int .u8 x, .int .u8 y] 5)).drew.cell? ((⟨w.heap.size, 0, none⟩ : Addr).add j) = some u := news_lit w [.int .u8 x, .int .u8 y] 5 w.heap.size rfl
theorem row_two {w : World} {C : Nat} {v : Value} {q : List Int} {x y z t : Int} (h : w.ownsRow C 5 1 v (q.length + 2) (q.map (Value.int .u8) ++ [.int .u8 z, .int .u8 t])) (hz : z = x % 256) (ht : t = y % 256) : w.ownsRow C 5 1 v (q ++ [x % 256, y % 256]).length ((q ++ [x % 256, y % 256]).map (Value.int .u8)) := by
  subst hz ht
  rw [List.length_append, List.map_append]
  exact h
theorem BK.grow2 {C : Nat} {w w5 : World} {v : Value} {n : Nat} {xs : List Value} {o : Obj} (h : w.ownsRow C 5 1 v n xs) (hg : (w.alloc o).drew.grownBy w5 v.ownBlock) : BK C w w5 := BK.grow1 (o := o) h ⟨hg.os, hg.tape, hg.output, hg.size, hg.block⟩
variable (la : Option Addr) (lc : Nat) (l : List TxA) (m : Int)
set_option maxRecDepth 100000 in
set_option maxHeartbeats 4000000 in
/-- The document's bytes of a right plan. -/
theorem docBytes_any (w : World) (hl : IsTxs w la l) (hE : planE m l = 0) :
    Calls Try.prog 18 #[.agg #[.int .i64 m, .slice la l.length lc]] w fun e w' => ∃ S, e = .returned (.string S) ∧ lst S = plB m l ∧ Below w.heap.size w w' := by
  obtain ⟨i0, hi, hz0, hz1, hz2⟩ := info_parts Try.info5
  obtain ⟨h8, hfew⟩ := few_of hE
  have HFW : Hid (Few l) := hfew
  obtain ⟨W, hWe⟩ : ∃ W, W = w.alloc (.cells #[.int .i64 m, .slice la l.length lc] 50) := ⟨_, rfl⟩
  have HWE : Hid (W = w.alloc (.cells #[.int .i64 m, .slice la l.length lc] 50)) := hWe
  have p0 : W.cell? ⟨w.heap.size, 0, none⟩ = some (.int .i64 m) := by subst hWe; simp
  have p1 : W.cell? ⟨w.heap.size, 1, none⟩ = some (.slice la l.length lc) := by subst hWe; simp
  have BW : Hid (Below w.heap.size w W) := by subst hWe; exact grow_alloc (Below.refl _ _) _
  have HL : Hid (IsTxs W la l) := hl.below BW.out
  have hwW : w.heap.size < W.heap.size := by subst hWe; simp
  clear hl hWe hE hfew
  obtain ⟨HD, hHD⟩ : ∃ h, h = [m % 256, (l.length : Int)] := ⟨_, rfl⟩
  have EHD : Hid (HD = [m % 256, (l.length : Int)]) := hHD
  have lHD : HD.length = 2 := by rw [hHD]; rfl
  have H0 : Hid ((W.alloc (.cells #[.int .u8 (m % 256), .int .u8 (l.length : Int)] 5)).ownsRow W.heap.size 5 1 (.slice (some ⟨W.heap.size, 0, none⟩) 2 2) (HD).length ((HD).map (Value.int .u8))) := by
    show World.ownsRow _ _ _ _ _ _ _
    rw [hHD]
    exact World.ownsRow_lit W #[.int .u8 (m % 256), .int .u8 (l.length : Int)] 2 (Nat.le_refl _) (by decide) rfl
  clear hHD
  go_enter Try.func18, Try.ntmps18
  go_upto_region 1 with fail
  rw [← HWE.out]
  go_wp2
  go_loopw [3, 4, 5, 6, 7, 8] (fun v i _ _ _ _ wr => ∃ k : Nat, k ≤ l.length ∧ i = .int .i64 k ∧ Hid (wr.ownsRow W.heap.size 5 1 v (HD ++ (l.take k).flatMap xB).length ((HD ++ (l.take k).flatMap xB).map (Value.int .u8))) ∧ Hid (BK W.heap.size W wr)) (fun _ i _ _ _ _ _ => l.length - (intOf i).toNat)
  case atStart => exact ⟨0, Nat.zero_le _, rfl, by show World.ownsRow _ _ _ _ _ _ _; simpa using H0.out, (BK.refl _ _).alloc _⟩
  case round =>
    clear H0
    obtain ⟨k, hk, rfl, HO, BV⟩ := hrel
    have z0 := BV.out.cell p0 (Or.inl hwW)
    have z1 := BV.out.cell p1 (Or.inl hwW)
    have hsr : W.heap.size ≤ wr.heap.size := BV.out.size
    by_cases hlt : k < l.length
    · have i1 : (0 : Int) ≤ (k : Int) := by omega
      have i2 : (k : Int) < (l.length : Int) := by omega
      obtain ⟨b, off, hla, hb, c0, c1, c2, hx⟩ := HL.out k hlt
      have HX : Hid (IsX W (l.getD k x0)) := hx
      have c0 := ext_cell (BV.out.below (Nat.le_refl _)) c0
      have c1 := ext_cell (BV.out.below (Nat.le_refl _)) c1
      have c2 := ext_cell (BV.out.below (Nat.le_refl _)) c2
      obtain ⟨s1, s2, s3⟩ := HFW.out k hlt
      have ln := xsB_len l HFW.out k hk
      obtain ⟨Q1, eQ1⟩ : ∃ q, q = HD ++ (l.take k).flatMap xB := ⟨_, rfl⟩
      have EQ1 : Hid (Q1 = HD ++ (l.take k).flatMap xB) := eQ1
      have lQ1 : Q1.length ≤ 1700 := by rw [eQ1, List.length_append]; omega
      rw [← eQ1] at HO
      have HXK0 : Hid (l.getD k x0 = l.getD k x0) := rfl
      obtain ⟨x, ex⟩ : ∃ x, l.getD k x0 = x := ⟨_, rfl⟩
      have HXK : Hid (l.getD k x0 = x) := ex
      rw [ex] at HX c0 c1 c2 s1 s2 s3
      clear eQ1 hx ex ln HXK0
      subst hla
      obtain ⟨ra, ga, sa, rc, gc, sc, rs, gs, ss⟩ := x
      simp only at c0 c1 c2 s1 s2 s3
      go_upto_region 6 with fail
      obtain ⟨VX, hVX⟩ : ∃ V, V = wr.alloc (.cells #[.slice ra rs.length rc, .slice ga gs.length gc, .slice sa ss.length sc] 38) := ⟨_, rfl⟩
      have x0 : VX.cell? ⟨wr.heap.size, 0, none⟩ = some (.slice ra rs.length rc) := by subst hVX; simp
      have x1 : VX.cell? ⟨wr.heap.size, 1, none⟩ = some (.slice ga gs.length gc) := by subst hVX; simp
      have x2 : VX.cell? ⟨wr.heap.size, 2, none⟩ = some (.slice sa ss.length sc) := by subst hVX; simp
      have NX : Hid (NoBytes VX wr.heap.size) := by subst hVX; exact noB_alloc _ _ _ (by decide)
      have BWX : Hid (BK W.heap.size W VX) := by subst hVX; exact BV.out.alloc _
      have HO : Hid (VX.ownsRow W.heap.size 5 1 u3 (Q1).length ((Q1).map (Value.int .u8))) := by subst hVX; exact HO.out.alloc _
      have hCV : W.heap.size ≤ VX.heap.size := BWX.out.size
      have BV : Hid (BK W.heap.size VX VX) := BK.refl _ _
      rw [← hVX]
      clear hVX c0 c1 c2 z0 z1 hsr
      generalize wr.heap.size = XB at *
      go_wp2_with (first | (at_builtin; refine wpList_append_own _ rfl _ _ 95 rfl W.heap.size 5 i0 (.int .u8 0) 1 1 Try.underlying95 hi hz0 hz1 hz2 rfl (by decide) _ _ _ rfl (HO.out.alloc _) _ 1 1 [.int .u8 _] rfl rfl (cell_one_new _ _ _) (u8_cells _) (by unfold maxLen; omega) (by omega) (by simp; omega) ?_; intro v' w5 hown' hgrow _; have HO5 := hid hown'; have HG5 := hid hgrow; clear hown' hgrow) | go_in)
      have HN := hid (row_snoc (x := (rs.length : Int)) HO5.out (by first | rfl | omega | rw [IntKind.wrap_u8']))
      have BN : Hid (BK W.heap.size VX w5) := BV.out.trans (BK.grow1 HO.out HG5.out)
      clear HO5 HG5 HO BV
      obtain ⟨Q2, eQ2⟩ : ∃ q, q = Q1 ++ [(rs.length : Int) % 256] := ⟨_, rfl⟩
      have EQ2 : Hid (Q2 = Q1 ++ [(rs.length : Int) % 256]) := eQ2
      have lQ2 : Q2.length = Q1.length + 1 := by rw [eQ2]; simp
      rw [← eQ2] at HN
      clear eQ2
      go_loopw [3, 6] (fun v i wr => ∃ k2 : Nat, k2 ≤ rs.length ∧ i = .int .i64 k2 ∧ Hid (wr.ownsRow W.heap.size 5 1 v (Q2 ++ (rs.take k2).map (· % 256)).length ((Q2 ++ (rs.take k2).map (· % 256)).map (Value.int .u8))) ∧ Hid (BK W.heap.size VX wr)) (fun _ i _ => rs.length - (intOf i).toNat)
      case atStart => exact ⟨0, Nat.zero_le _, rfl, by show World.ownsRow _ _ _ _ _ _ _; simpa using HN.out, BN⟩
      case round =>
        clear HN BN
        obtain ⟨k2, hk2, rfl, HO, BV⟩ := hrel
        have z0 := BV.out.cell x0 (Or.inr NX.out)
        have z1 := BV.out.cell x1 (Or.inr NX.out)
        have z2 := BV.out.cell x2 (Or.inr NX.out)
        have hsr : W.heap.size ≤ wr.heap.size := Nat.le_trans hCV BV.out.size
        have hBl : Hid (Below W.heap.size W wr) := (BWX.out.trans BV.out).below (Nat.le_refl _)
        by_cases hlt2 : k2 < rs.length
        · have i1 : (0 : Int) ≤ (k2 : Int) := by omega
          have i2 : (k2 : Int) < (rs.length : Int) := by omega
          obtain ⟨QK, eQK⟩ : ∃ q, q = Q2 ++ (rs.take k2).map (· % 256) := ⟨_, rfl⟩
          have EQK : Hid (QK = Q2 ++ (rs.take k2).map (· % 256)) := eQK
          have lQK : QK.length ≤ Q2.length + 4 := by
            rw [eQK, List.length_append]
            simp only [List.length_map, List.length_take]; omega
          rw [← eQK] at HO
          clear eQK
          obtain ⟨b, off, hra, hb, hc⟩ := HX.out.t.r k2 hlt2
          have hc := ext_cell hBl.out hc
          obtain ⟨y, hy⟩ : ∃ y, rs.getD k2 0 = y := ⟨_, rfl⟩
          rw [hy] at hc
          have HY : Hid (rs.getD k2 0 = y) := hy
          clear hy
          subst hra
          go_wp2_with (first | (at_builtin; refine wpList_append_own _ rfl _ _ 95 rfl W.heap.size 5 i0 (.int .u8 0) 1 1 Try.underlying95 hi hz0 hz1 hz2 rfl (by decide) _ _ _ rfl (HO.out.alloc _) _ 1 1 [.int .u8 _] rfl rfl (cell_one_new _ _ _) (u8_cells _) (by unfold maxLen; omega) (by omega) (by simp; omega) ?_; intro v' w5 hown' hgrow _; have HO5 := hid hown'; have HG5 := hid hgrow; clear hown' hgrow) | go_in)
          have HN := hid (row_snoc (x := y) HO5.out (by first | rfl | omega | rw [IntKind.wrap_u8']))
          have BN : Hid (BK W.heap.size VX w5) := BV.out.trans (BK.grow1 HO.out HG5.out)
          clear HO5 HG5 HO BV
          have HT : Hid (w5.ownsRow W.heap.size 5 1 v' (Q2 ++ (rs.take (k2 + 1)).map (· % 256)).length ((Q2 ++ (rs.take (k2 + 1)).map (· % 256)).map (Value.int .u8))) := by
            show World.ownsRow _ _ _ _ _ _ _
            rw [take_map_succ _ rs 0 k2 hlt2, HY.out, ← List.append_assoc, ← EQK.out]
            exact HN.out
          clear HN
          go_roundw
          case rel => exact ⟨k2 + 1, by omega, by go_num, HT, BN⟩
          case measure => simp [intOf]; omega
        · have hk2e : k2 = rs.length := by omega
          subst hk2e
          have i2 : ¬ ((rs.length : Int) < (rs.length : Int)) := by omega
          obtain ⟨QE2, eQE⟩ : ∃ q, q = Q2 ++ (rs).map (· % 256) := ⟨_, rfl⟩
          have EQE2 : Hid (QE2 = Q2 ++ (rs).map (· % 256)) := eQE
          have lQE2 : QE2.length ≤ Q2.length + 4 := by
            rw [eQE, List.length_append]
            simp only [List.length_map]; omega
          have HO : Hid (wr.ownsRow W.heap.size 5 1 u3 (QE2).length ((QE2).map (Value.int .u8))) := by
            have := HO.out
            rw [List.take_length] at this
            rw [eQE]
            exact this
          clear eQE
          go_wp2_with (first | (at_builtin; refine wpList_append_own _ rfl _ _ 95 rfl W.heap.size 5 i0 (.int .u8 0) 1 1 Try.underlying95 hi hz0 hz1 hz2 rfl (by decide) _ _ _ rfl (HO.out.alloc _) _ 1 1 [.int .u8 _] rfl rfl (cell_one_new _ _ _) (u8_cells _) (by unfold maxLen; omega) (by omega) (by simp; omega) ?_; intro v' w5 hown' hgrow _; have HO5 := hid hown'; have HG5 := hid hgrow; clear hown' hgrow) | go_in)
          have HN := hid (row_snoc (x := (gs.length : Int)) HO5.out (by first | rfl | omega | rw [IntKind.wrap_u8']))
          have BN : Hid (BK W.heap.size VX w5) := BV.out.trans (BK.grow1 HO.out HG5.out)
          clear HO5 HG5 HO BV
          obtain ⟨Q3, eQ3⟩ : ∃ q, q = QE2 ++ [(gs.length : Int) % 256] := ⟨_, rfl⟩
          have EQ3 : Hid (Q3 = QE2 ++ [(gs.length : Int) % 256]) := eQ3
          have lQ3 : Q3.length = QE2.length + 1 := by rw [eQ3]; simp
          rw [← eQ3] at HN
          clear eQ3
          go_loopw [3, 7] (fun v i wr => ∃ k3 : Nat, k3 ≤ gs.length ∧ i = .int .i64 k3 ∧ Hid (wr.ownsRow W.heap.size 5 1 v (Q3 ++ (gs.take k3).flatMap (fun x => gdB x.k x.ak x.an x.bk x.bn)).length ((Q3 ++ (gs.take k3).flatMap (fun x => gdB x.k x.ak x.an x.bk x.bn)).map (Value.int .u8))) ∧ Hid (BK W.heap.size VX wr)) (fun _ i _ => gs.length - (intOf i).toNat)
          case atStart => exact ⟨0, Nat.zero_le _, rfl, by show World.ownsRow _ _ _ _ _ _ _; simpa using HN.out, BN⟩
          case round =>
            clear HN BN
            obtain ⟨k3, hk3, rfl, HO, BV⟩ := hrel
            have z0 := BV.out.cell x0 (Or.inr NX.out)
            have z1 := BV.out.cell x1 (Or.inr NX.out)
            have z2 := BV.out.cell x2 (Or.inr NX.out)
            have hsr : W.heap.size ≤ wr.heap.size := Nat.le_trans hCV BV.out.size
            have hBl : Hid (Below W.heap.size W wr) := (BWX.out.trans BV.out).below (Nat.le_refl _)
            by_cases hlt3 : k3 < gs.length
            · have i1 : (0 : Int) ≤ (k3 : Int) := by omega
              have i2 : (k3 : Int) < (gs.length : Int) := by omega
              obtain ⟨QK, eQK⟩ : ∃ q, q = Q3 ++ (gs.take k3).flatMap (fun x => gdB x.k x.ak x.an x.bk x.bn) := ⟨_, rfl⟩
              have EQK : Hid (QK = Q3 ++ (gs.take k3).flatMap (fun x => gdB x.k x.ak x.an x.bk x.bn)) := eQK
              have lQK : QK.length ≤ Q3.length + 80 := by
                rw [eQK, List.length_append]
                have := gsB_len gs k3; omega
              rw [← eQK] at HO
              clear eQK
              obtain ⟨b, off, hga, hb, e0, e1, e2, e3, e4⟩ := HX.out.t.g k3 hlt3
              have HGT : Hid (_ = _) := gsB_take gs k3 hlt3
              subst hga
              generalize gs.getD k3 g0 = y at *
              obtain ⟨yk, ak, an, bk, bn⟩ := y
              simp only at e0 e1 e2 e3 e4
              have d0 := ext_cell hBl.out e0
              go_upto_region 16 with (first | (at_builtin; refine wpList_append_own _ rfl _ _ 95 rfl W.heap.size 5 i0 (.int .u8 0) 1 1 Try.underlying95 hi hz0 hz1 hz2 rfl (by decide) _ _ _ rfl (HO.out.alloc _) _ 1 1 [.int .u8 _] rfl rfl (cell_one_new _ _ _) (u8_cells _) (by unfold maxLen; omega) (by omega) (by simp; omega) ?_; intro v' w5 hown' hgrow _; have HO5 := hid hown'; have HG5 := hid hgrow; clear hown' hgrow) | go_in)
              have HN := hid (row_snoc (x := yk) HO5.out (by first | rfl | omega | rw [IntKind.wrap_u8']))
              have BN : Hid (BK W.heap.size VX w5) := BV.out.trans (BK.grow1 HO.out HG5.out)
              clear HO5 HG5 HO BV
              obtain ⟨QA, eQA⟩ : ∃ q, q = QK ++ [yk % 256] := ⟨_, rfl⟩
              have EQA : Hid (QA = QK ++ [yk % 256]) := eQA
              have lQA : QA.length = QK.length + 1 := by rw [eQA]; simp
              rw [← eQA] at HN
              clear eQA
              have f1 := ext_cell ((BWX.out.trans BN.out).below (Nat.le_refl _)) e1
              have f2 := ext_cell ((BWX.out.trans BN.out).below (Nat.le_refl _)) e2
              have y1 := BN.out.cell x1 (Or.inr NX.out)
              go_wp2_with fail
              refine (opBytes_any ak an _).mono ?_
              rintro e w6 ⟨g9, cap9, rfl, hb9, hb6⟩
              have HB9 := hid hb9
              have HO := hid (row_below HN.out hb6)
              have BV : Hid (BK W.heap.size VX w6) := BN.out.trans (BK.ofBelow hb6)
              have hs6 : W.heap.size ≤ w6.heap.size := Nat.le_trans hCV (BV.out.size)
              clear HN BN hb9 hb6
              go_upto_region 17 with (first | (at_builtin; refine wpList_append_own _ rfl _ _ 95 rfl W.heap.size 5 i0 (.int .u8 0) 1 1 Try.underlying95 hi hz0 hz1 hz2 rfl (by decide) _ _ _ rfl HO.out _ 9 _ ((opB ak an).map (Value.int .u8)) rfl rfl (fun j v hj => HB9.out.cells (g := g9) rfl j v hj) (ints_oneCell .u8 (opB ak an)) (by unfold maxLen; omega) (by omega) (by omega) ?_; intro v' w5 hown' hgrow _; have HO5 := hid hown'; have HG5 := hid hgrow; clear hown' hgrow) | go_in)
              have HN := hid (row_nine (r := opB ak an) HO5.out rfl)
              have BN : Hid (BK W.heap.size VX w5) := BV.out.trans (BK.grow HO.out HG5.out)
              clear HO5 HG5 HO BV HB9
              obtain ⟨QB, eQB⟩ : ∃ q, q = QA ++ opB ak an := ⟨_, rfl⟩
              have EQB : Hid (QB = QA ++ opB ak an) := eQB
              have lQB : QB.length = QA.length + 9 := by rw [eQB]; simp [opB_len]
              rw [← eQB] at HN
              clear eQB
              have f3 := ext_cell ((BWX.out.trans BN.out).below (Nat.le_refl _)) e3
              have f4 := ext_cell ((BWX.out.trans BN.out).below (Nat.le_refl _)) e4
              have y1b := BN.out.cell x1 (Or.inr NX.out)
              clear f1 f2 y1
              go_wp2_with fail
              refine (opBytes_any bk bn _).mono ?_
              rintro e w6 ⟨g9, cap9, rfl, hb9, hb6⟩
              have HB9 := hid hb9
              have HO := hid (row_below HN.out hb6)
              have BV : Hid (BK W.heap.size VX w6) := BN.out.trans (BK.ofBelow hb6)
              have hs6 : W.heap.size ≤ w6.heap.size := Nat.le_trans hCV (BV.out.size)
              clear HN BN hb9 hb6
              go_wp2_with (first | (at_builtin; refine wpList_append_own _ rfl _ _ 95 rfl W.heap.size 5 i0 (.int .u8 0) 1 1 Try.underlying95 hi hz0 hz1 hz2 rfl (by decide) _ _ _ rfl HO.out _ 9 _ ((opB bk bn).map (Value.int .u8)) rfl rfl (fun j v hj => HB9.out.cells (g := g9) rfl j v hj) (ints_oneCell .u8 (opB bk bn)) (by unfold maxLen; omega) (by omega) (by omega) ?_; intro v' w5 hown' hgrow _; have HO5 := hid hown'; have HG5 := hid hgrow; clear hown' hgrow) | go_in)
              have HN := hid (row_nine (r := opB bk bn) HO5.out rfl)
              have BN : Hid (BK W.heap.size VX w5) := BV.out.trans (BK.grow HO.out HG5.out)
              clear HO5 HG5 HO BV HB9
              obtain ⟨QC, eQC⟩ : ∃ q, q = QB ++ opB bk bn := ⟨_, rfl⟩
              have EQC : Hid (QC = QB ++ opB bk bn) := eQC
              have lQC : QC.length = QB.length + 9 := by rw [eQC]; simp [opB_len]
              rw [← eQC] at HN
              clear eQC
              have HT : Hid (w5.ownsRow W.heap.size 5 1 v' (Q3 ++ (gs.take (k3 + 1)).flatMap (fun x => gdB x.k x.ak x.an x.bk x.bn)).length ((Q3 ++ (gs.take (k3 + 1)).flatMap (fun x => gdB x.k x.ak x.an x.bk x.bn)).map (Value.int .u8))) := by
                show World.ownsRow _ _ _ _ _ _ _
                rw [HGT.out, ← List.append_assoc, ← EQK.out]
                have := HN.out
                rw [EQC.out, EQB.out, EQA.out] at this
                simpa [gdB] using this
              clear HN
              go_roundw
              case rel => exact ⟨k3 + 1, by omega, by go_num, HT, BN⟩
              case measure => simp [intOf]; omega
            · have hk3e : k3 = gs.length := by omega
              subst hk3e
              have i2 : ¬ ((gs.length : Int) < (gs.length : Int)) := by omega
              obtain ⟨QE3, eQE⟩ : ∃ q, q = Q3 ++ (gs).flatMap (fun x => gdB x.k x.ak x.an x.bk x.bn) := ⟨_, rfl⟩
              have EQE3 : Hid (QE3 = Q3 ++ (gs).flatMap (fun x => gdB x.k x.ak x.an x.bk x.bn)) := eQE
              have lQE3 : QE3.length ≤ Q3.length + 80 := by
                rw [eQE, List.length_append]
                have := gsB_len gs gs.length; rw [List.take_length] at this; omega
              have HO : Hid (wr.ownsRow W.heap.size 5 1 u3 (QE3).length ((QE3).map (Value.int .u8))) := by
                have := HO.out
                rw [List.take_length] at this
                rw [eQE]
                exact this
              clear eQE
              go_wp2_with (first | (at_builtin; refine wpList_append_own _ rfl _ _ 95 rfl W.heap.size 5 i0 (.int .u8 0) 1 1 Try.underlying95 hi hz0 hz1 hz2 rfl (by decide) _ _ _ rfl (HO.out.alloc _) _ 1 1 [.int .u8 _] rfl rfl (cell_one_new _ _ _) (u8_cells _) (by unfold maxLen; omega) (by omega) (by simp; omega) ?_; intro v' w5 hown' hgrow _; have HO5 := hid hown'; have HG5 := hid hgrow; clear hown' hgrow) | go_in)
              have HN := hid (row_snoc (x := (ss.length : Int)) HO5.out (by first | rfl | omega | rw [IntKind.wrap_u8']))
              have BN : Hid (BK W.heap.size VX w5) := BV.out.trans (BK.grow1 HO.out HG5.out)
              clear HO5 HG5 HO BV
              obtain ⟨Q4, eQ4⟩ : ∃ q, q = QE3 ++ [(ss.length : Int) % 256] := ⟨_, rfl⟩
              have EQ4 : Hid (Q4 = QE3 ++ [(ss.length : Int) % 256]) := eQ4
              have lQ4 : Q4.length = QE3.length + 1 := by rw [eQ4]; simp
              rw [← eQ4] at HN
              clear eQ4
              go_loopw [3, 8] (fun v i wr => ∃ k4 : Nat, k4 ≤ ss.length ∧ i = .int .i64 k4 ∧ Hid (wr.ownsRow W.heap.size 5 1 v (Q4 ++ (ss.take k4).flatMap (fun x => stB x.key x.op x.ak x.an x.bk x.bn)).length ((Q4 ++ (ss.take k4).flatMap (fun x => stB x.key x.op x.ak x.an x.bk x.bn)).map (Value.int .u8))) ∧ Hid (BK W.heap.size VX wr)) (fun _ i _ => ss.length - (intOf i).toNat)
              case atStart => exact ⟨0, Nat.zero_le _, rfl, by show World.ownsRow _ _ _ _ _ _ _; simpa using HN.out, BN⟩
              case round =>
                clear HN BN
                obtain ⟨k4, hk4, rfl, HO, BV⟩ := hrel
                have z0 := BV.out.cell x0 (Or.inr NX.out)
                have z1 := BV.out.cell x1 (Or.inr NX.out)
                have z2 := BV.out.cell x2 (Or.inr NX.out)
                have hsr : W.heap.size ≤ wr.heap.size := Nat.le_trans hCV BV.out.size
                have hBl : Hid (Below W.heap.size W wr) := (BWX.out.trans BV.out).below (Nat.le_refl _)
                by_cases hlt4 : k4 < ss.length
                · have i1 : (0 : Int) ≤ (k4 : Int) := by omega
                  have i2 : (k4 : Int) < (ss.length : Int) := by omega
                  obtain ⟨QK, eQK⟩ : ∃ q, q = Q4 ++ (ss.take k4).flatMap (fun x => stB x.key x.op x.ak x.an x.bk x.bn) := ⟨_, rfl⟩
                  have EQK : Hid (QK = Q4 ++ (ss.take k4).flatMap (fun x => stB x.key x.op x.ak x.an x.bk x.bn)) := eQK
                  have lQK : QK.length ≤ Q4.length + 80 := by
                    rw [eQK, List.length_append]
                    have := ssB_len ss k4; omega
                  rw [← eQK] at HO
                  clear eQK
                  obtain ⟨b, off, hsa, hb, e0, e1, e2, e3, e4, e5⟩ := HX.out.t.s k4 hlt4
                  have HST : Hid (_ = _) := ssB_take ss k4 hlt4
                  subst hsa
                  generalize ss.getD k4 s0 = y at *
                  obtain ⟨yk, yo, ak, an, bk, bn⟩ := y
                  simp only at e0 e1 e2 e3 e4 e5
                  have d0 := ext_cell hBl.out e0
                  have d1 := ext_cell hBl.out e1
                  have HOd : Hid (∀ o, (wr.alloc o).drew.ownsRow W.heap.size 5 1 u3 QK.length (QK.map (Value.int .u8))) := fun o => HO.out.alloc o
                  go_upto_region 22 with fail
                  go_region_law (first | (refine step_append_keep (by rfl) _ _ _ (by rfl) W.heap.size 5 i0 (.int .u8 0) 1 Try.underlying95 hi hz0 hz1 hz2 rfl u3 QK.length (QK.map (Value.int .u8)) (by rfl) (HOd.out _) _ 2 2 [.int .u8 _, .int .u8 _] (by rfl) (by rfl) (news_two _ _ _) (ints_oneCell .u8 [_, _]) (by unfold maxLen; omega) (by omega) (by simp; omega) ?_; intro v' w5 ho3 hg3 hkeep; have HO5 := hid ho3; have HG5 := hid hg3; clear ho3 hg3 hkeep))
                  all_goals (
                    have HN := hid (row_two (x := yk) (y := yo) HO5.out (by first | rfl | omega | rw [IntKind.wrap_u8']) (by first | rfl | omega | rw [IntKind.wrap_u8']))
                    have BN : Hid (BK W.heap.size VX w5) := BV.out.trans (BK.grow2 HO.out HG5.out)
                    clear HO5 HG5 HO BV HOd
                    obtain ⟨QA, eQA⟩ : ∃ q, q = QK ++ [yk % 256, yo % 256] := ⟨_, rfl⟩
                    have EQA : Hid (QA = QK ++ [yk % 256, yo % 256]) := eQA
                    have lQA : QA.length = QK.length + 2 := by rw [eQA]; simp
                    rw [← eQA] at HN
                    clear eQA
                    have f1 := ext_cell ((BWX.out.trans BN.out).below (Nat.le_refl _)) e2
                    have f2 := ext_cell ((BWX.out.trans BN.out).below (Nat.le_refl _)) e3
                    have y1 := BN.out.cell x2 (Or.inr NX.out)
                    go_wp2_with fail
                    refine (opBytes_any ak an _).mono ?_
                    rintro e w6 ⟨g9, cap9, rfl, hb9, hb6⟩
                    have HB9 := hid hb9
                    have HO := hid (row_below HN.out hb6)
                    have BV : Hid (BK W.heap.size VX w6) := BN.out.trans (BK.ofBelow hb6)
                    have hs6 : W.heap.size ≤ w6.heap.size := Nat.le_trans hCV (BV.out.size)
                    clear HN BN hb9 hb6
                    go_upto_region 24 with (first | (at_builtin; refine wpList_append_own _ rfl _ _ 95 rfl W.heap.size 5 i0 (.int .u8 0) 1 1 Try.underlying95 hi hz0 hz1 hz2 rfl (by decide) _ _ _ rfl HO.out _ 9 _ ((opB ak an).map (Value.int .u8)) rfl rfl (fun j v hj => HB9.out.cells (g := g9) rfl j v hj) (ints_oneCell .u8 (opB ak an)) (by unfold maxLen; omega) (by omega) (by omega) ?_; intro v' w5 hown' hgrow _; have HO5 := hid hown'; have HG5 := hid hgrow; clear hown' hgrow) | go_in)
                    have HN := hid (row_nine (r := opB ak an) HO5.out rfl)
                    have BN : Hid (BK W.heap.size VX w5) := BV.out.trans (BK.grow HO.out HG5.out)
                    clear HO5 HG5 HO BV HB9
                    obtain ⟨QB, eQB⟩ : ∃ q, q = QA ++ opB ak an := ⟨_, rfl⟩
                    have EQB : Hid (QB = QA ++ opB ak an) := eQB
                    have lQB : QB.length = QA.length + 9 := by rw [eQB]; simp [opB_len]
                    rw [← eQB] at HN
                    clear eQB
                    have f3 := ext_cell ((BWX.out.trans BN.out).below (Nat.le_refl _)) e4
                    have f4 := ext_cell ((BWX.out.trans BN.out).below (Nat.le_refl _)) e5
                    have y1b := BN.out.cell x2 (Or.inr NX.out)
                    clear f1 f2 y1
                    go_wp2_with fail
                    refine (opBytes_any bk bn _).mono ?_
                    rintro e w6 ⟨g9, cap9, rfl, hb9, hb6⟩
                    have HB9 := hid hb9
                    have HO := hid (row_below HN.out hb6)
                    have BV : Hid (BK W.heap.size VX w6) := BN.out.trans (BK.ofBelow hb6)
                    have hs6 : W.heap.size ≤ w6.heap.size := Nat.le_trans hCV (BV.out.size)
                    clear HN BN hb9 hb6
                    go_wp2_with (first | (at_builtin; refine wpList_append_own _ rfl _ _ 95 rfl W.heap.size 5 i0 (.int .u8 0) 1 1 Try.underlying95 hi hz0 hz1 hz2 rfl (by decide) _ _ _ rfl HO.out _ 9 _ ((opB bk bn).map (Value.int .u8)) rfl rfl (fun j v hj => HB9.out.cells (g := g9) rfl j v hj) (ints_oneCell .u8 (opB bk bn)) (by unfold maxLen; omega) (by omega) (by omega) ?_; intro v' w5 hown' hgrow _; have HO5 := hid hown'; have HG5 := hid hgrow; clear hown' hgrow) | go_in)
                    have HN := hid (row_nine (r := opB bk bn) HO5.out rfl)
                    have BN : Hid (BK W.heap.size VX w5) := BV.out.trans (BK.grow HO.out HG5.out)
                    clear HO5 HG5 HO BV HB9
                    obtain ⟨QC, eQC⟩ : ∃ q, q = QB ++ opB bk bn := ⟨_, rfl⟩
                    have EQC : Hid (QC = QB ++ opB bk bn) := eQC
                    have lQC : QC.length = QB.length + 9 := by rw [eQC]; simp [opB_len]
                    rw [← eQC] at HN
                    clear eQC
                    have HT : Hid (w5.ownsRow W.heap.size 5 1 v' (Q4 ++ (ss.take (k4 + 1)).flatMap (fun x => stB x.key x.op x.ak x.an x.bk x.bn)).length ((Q4 ++ (ss.take (k4 + 1)).flatMap (fun x => stB x.key x.op x.ak x.an x.bk x.bn)).map (Value.int .u8))) := by
                      show World.ownsRow _ _ _ _ _ _ _
                      rw [HST.out, ← List.append_assoc, ← EQK.out]
                      have := HN.out
                      rw [EQC.out, EQB.out, EQA.out] at this
                      simpa [stB] using this
                    clear HN
                    go_roundw
                    case rel => exact ⟨k4 + 1, by omega, by go_num, HT, BN⟩
                    case measure => simp [intOf]; omega)
                · have hk4e : k4 = ss.length := by omega
                  subst hk4e
                  have i2 : ¬ ((ss.length : Int) < (ss.length : Int)) := by omega
                  obtain ⟨QE4, eQE⟩ : ∃ q, q = Q4 ++ (ss).flatMap (fun x => stB x.key x.op x.ak x.an x.bk x.bn) := ⟨_, rfl⟩
                  have EQE4 : Hid (QE4 = Q4 ++ (ss).flatMap (fun x => stB x.key x.op x.ak x.an x.bk x.bn)) := eQE
                  have lQE4 : QE4.length ≤ Q4.length + 80 := by
                    rw [eQE, List.length_append]
                    have := ssB_len ss ss.length; rw [List.take_length] at this; omega
                  have HO : Hid (wr.ownsRow W.heap.size 5 1 u3 (QE4).length ((QE4).map (Value.int .u8))) := by
                    have := HO.out
                    rw [List.take_length] at this
                    rw [eQE]
                    exact this
                  clear eQE
                  have HT : Hid (wr.ownsRow W.heap.size 5 1 u3 (HD ++ (l.take (k + 1)).flatMap xB).length ((HD ++ (l.take (k + 1)).flatMap xB).map (Value.int .u8))) := by
                    show World.ownsRow _ _ _ _ _ _ _
                    rw [xsB_take l k hlt, HXK.out, ← List.append_assoc, ← EQ1.out]
                    have := HO.out
                    rw [EQE4.out, EQ4.out, EQE3.out, EQ3.out, EQE2.out, EQ2.out] at this
                    simpa [xB, txB, zsB, gsB, ssB] using this
                  have BT : Hid (BK W.heap.size W wr) := BWX.out.trans BV.out
                  clear HO BV
                  go_wp2
                  go_roundw
                  case rel => exact ⟨k + 1, by omega, by go_num, HT, BT⟩
                  case measure => simp [intOf]; omega
    · have hke : k = l.length := by omega
      subst hke
      have i2 : ¬ ((l.length : Int) < (l.length : Int)) := by omega
      have ho := HO.out
      rw [List.take_length] at ho
      have hlen : 0 < (HD ++ l.flatMap xB).length := by rw [List.length_append]; omega
      obtain ⟨g, cap, hv, _, _⟩ := ho.form hlen
      subst hv
      have hpl : HD ++ l.flatMap xB = plB m l := by
        have e : (l.length : Int) % 256 = l.length := by omega
        rw [EHD.out, plB, xsB, e]; rfl
      rw [hpl] at ho
      obtain ⟨S, hS, hSl⟩ := conv_bytes wr _ g cap _ ho (plB_byt m l)
      have HS : Hid (lst S = plB m l) := hSl
      have BB : Hid (Below w.heap.size w wr) := grow_trans BW.out ((BV.out.below (Nat.le_refl _)))
      rw [hpl]
      clear ho hSl HO BV hpl hlen
      generalize (plB m l).length = N at *
      go_wp2
      go_ret
      exact ⟨S, rfl, HS.out, BB.out⟩
end Go.Proofs.Ytcgpkonfneofdaa
