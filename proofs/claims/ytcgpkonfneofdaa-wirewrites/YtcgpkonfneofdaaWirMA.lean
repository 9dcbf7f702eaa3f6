/-
  Wire: the writer. Wire: one byte. Wire: a value. Wire: an operand. Wire: a guard, a set. Wire: a list of whole numbers.
  Conditions: those that each theorem states.
-/
import Derived.Test.YtcgpkonfneofdaaTool
import Derived.Test.YtcgpkonfneofdaaTxnJ
import Derived.Test.YtcgpkonfneofdaaStoreD
import Derived.WalkKit
import Derived.WalkSpells
import Derived.WalkLawsBesides
import Derived.Defers
import Derived.Recover
import Derived.ProofKit
import Derived.Deep.RegionHeld
import Derived.Deep.RegionHeld3
import Derived.Deep.RegionLaw
import Derived.Deep.DeepCutAuto
import Derived.Deep.QuietTactic
import Derived.BigQuiet
import Derived.Maps.AppendAt
import Derived.Lib.OwnKind
import Derived.Lib.SliceRun
import Derived.Deep.AppendLies
namespace Go.Proofs.Ytcgpkonfneofdaa
open Go.RowKit

set_option maxRecDepth 100000 in
theorem Try.info5 : (Try.prog.info? 5).map (fun i => (i.zero, i.size, i.bytes)) = some (some (.int .u8 0), 1, 1) := by kernel_rfl
/-- No block of bytes. -/
def NoBytes (w : World) (b : Nat) : Prop := ∀ c fz, w.heap[b]? ≠ some (.cells c 5 fz)
/-- What writing keeps: all but the writer's own cell and its bytes. -/
structure WK (P : Nat) (w w' : World) : Prop where
  os : w'.os = w.os
  tape : w'.tape = w.tape
  output : w'.output = w.output
  size : w.heap.size ≤ w'.heap.size
  keep : ∀ b, b < w.heap.size → b ≠ P → (b < P ∨ NoBytes w b) → w'.heap[b]? = w.heap[b]?
theorem WK.refl (P : Nat) (w : World) : WK P w w := ⟨rfl, rfl, rfl, Nat.le_refl _, fun _ _ _ _ => rfl⟩
theorem WK.trans {P : Nat} {a b c : World} (h : WK P a b) (k : WK P b c) : WK P a c :=
  ⟨k.os.trans h.os, k.tape.trans h.tape, k.output.trans h.output, Nat.le_trans h.size k.size, fun i hi hP hor => by
    have h1 := h.keep i hi hP hor
    exact (k.keep i (Nat.lt_of_lt_of_le hi h.size) hP (hor.imp id (fun hn c fz e => hn c fz (h1 ▸ e)))).trans h1⟩
theorem WK.alloc {P : Nat} {a w : World} (h : WK P a w) (o : Obj) : WK P a (w.alloc o) :=
  h.trans ⟨rfl, rfl, rfl, by simp, fun b hb _ _ => Below.heap_alloc _ _ _ hb⟩
theorem WK.below {P : Nat} {w w' : World} (h : WK P w w') (hP : P < w.heap.size) : Below P w w' := ⟨h.os, h.tape, h.output, h.size, fun b hb => h.keep b (by omega) (by omega) (Or.inl hb)⟩
theorem WK.cell {P : Nat} {w w' : World} (h : WK P w w') {b i : Nat} {v : Value} (hc : w.cell? ⟨b, i, none⟩ = some v) (hP : b ≠ P) (hor : b < P ∨ NoBytes w b) : w'.cell? ⟨b, i, none⟩ = some v := by
  have hb : b < w.heap.size := World.block_lt_of_cell? w ⟨b, i, none⟩ hc
  have e := h.keep b hb hP hor
  exact (World.cell?_of_block (w := w) (w' := w') (a := ⟨b, i, none⟩) e).trans hc
/-- The writer: what is written. -/
def WrS (P : Nat) (w : World) (bs : List Int) : Prop := ∃ v, w.cell? ⟨P, 0, none⟩ = some v ∧ w.frozen? ⟨P, 0, none⟩ = false ∧ w.ownsRow (P + 1) 5 1 v bs.length (bs.map (Value.int .u8))
end Go.Proofs.Ytcgpkonfneofdaa

namespace Go.Proofs.Ytcgpkonfneofdaa
open Go.RowKit

theorem u8_cells (x : Int) : ∀ u ∈ [Value.int .u8 x], u.oneCell' = true := ints_oneCell .u8 [x]
theorem wr_after {P : Nat} {w w5 : World} {v : Value} {o : Obj} (hc : w.cell? ⟨P, 0, none⟩ = some v) (hf : w.frozen? ⟨P, 0, none⟩ = false) (hg : (w.alloc o).grownBy w5 v.ownBlock) (h1 : ∀ g, v.ownBlock = some g → P + 1 ≤ g ∧ g < w.heap.size) (h2 : ∀ g, v.ownBlock = some g → ∃ c fz, w.heap[g]? = some (.cells c 5 fz)) : w5.cell? ⟨P, 0, none⟩ = some v ∧ w5.frozen? ⟨P, 0, none⟩ = false ∧ WK P w w5 := by
  have hP : P < w.heap.size := World.block_lt_of_cell? w ⟨P, 0, none⟩ hc
  have key : ∀ b, b < w.heap.size → (v.ownBlock ≠ some b) → w5.heap[b]? = w.heap[b]? := fun b hb hne => (hg.block b (by simp; omega) (fun e => hne e.symm)).trans (Below.heap_alloc _ _ _ hb)
  have eP := key P hP (fun e => by have := h1 P e; omega)
  refine ⟨(World.cell?_of_block (w := w) (w' := w5) (a := ⟨P, 0, none⟩) eP).trans hc, (World.frozen?_of_block (w := w) (w' := w5) (a := ⟨P, 0, none⟩) eP).trans hf, ⟨hg.os, hg.tape, hg.output, Nat.le_trans (by simp) hg.size, fun b hb hbP hor => key b hb (fun e => ?_)⟩⟩
  rcases hor with h | h
  · have := h1 b e; omega
  · obtain ⟨c, fz, hh⟩ := h2 b e
    exact h c fz hh
set_option maxRecDepth 100000 in
set_option maxHeartbeats 1000000 in
/-- One byte more. -/
theorem number_any (P : Nat) (n : Int) (bs : List Int) (w : World) (h : WrS P w bs) (hl : bs.length ≤ 100000) :
    Calls Try.prog 85 #[.pointer (some ⟨P, 0, none⟩), .int .i64 n] w fun e w' => e = .returned (.tuple #[]) ∧ WrS P w' (bs ++ [n % 256]) ∧ WK P w w' := by
  obtain ⟨i0, hi, hz0, hz1, hz2⟩ := info_parts Try.info5
  obtain ⟨v, hc, hf, hown⟩ := h
  have hP : P < w.heap.size := World.block_lt_of_cell? w ⟨P, 0, none⟩ hc
  have HRB : Hid (∀ g, v.ownBlock = some g → P + 1 ≤ g ∧ g < w.heap.size) := fun g hg => hown.lt g hg
  have HRK : Hid (∀ g, v.ownBlock = some g → ∃ c fz, w.heap[g]? = some (.cells c 5 fz)) := Lib.ownsRow_kind hown
  have HO : Hid (w.ownsRow (P + 1) 5 1 v bs.length (bs.map (Value.int .u8))) := hown
  have HC : Hid (w.cell? ⟨P, 0, none⟩ = some v) := hc
  have HF : Hid (w.frozen? ⟨P, 0, none⟩ = false) := hf
  have HX : Hid (∀ (o : Obj) (w5 : World), (w.alloc o).grownBy w5 v.ownBlock → w5.cell? ⟨P, 0, none⟩ = some v ∧ w5.frozen? ⟨P, 0, none⟩ = false ∧ WK P w w5) := fun o w5 hg => wr_after hc hf hg HRB.out HRK.out
  clear hown
  go_enter Try.func85, Try.ntmps85
  go_wp2_with (first
    | (at_builtin; refine wpList_append_own _ rfl _ _ 95 rfl (P + 1) 5 i0 (.int .u8 0) 1 1 Try.underlying95 hi hz0 hz1 hz2 rfl (by decide) _ _ _ rfl (HO.out.alloc _) _ 1 1 [.int .u8 _] rfl rfl (cell_one_new _ _ _) (u8_cells _) (by unfold maxLen; omega) (by omega) (by simp; omega) ?_; intro v' w5 hown' hgrow _; obtain ⟨g, cap, hv, hg1, hg2⟩ := hown'.form (Nat.succ_pos _); subst hv; obtain ⟨hc5, hf5, hk5⟩ := HX.out _ w5 hgrow; have HO5 : Hid _ := hown'; have HK5 : Hid (WK P w w5) := hk5; clear hown' hgrow hk5 hc hf)
    | go_in)
  have hne : P ≠ g := by omega
  have h5 := HO5.out
  go_end0
  refine ⟨rfl, ⟨_, set_here hc5, by simpa using hf5, ?_⟩, HK5.out.trans ⟨rfl, rfl, rfl, by simp, fun b hb hbP _ => Below.heap_setCell _ _ _ _ hbP⟩⟩
  rw [List.length_append, List.map_append]
  exact World.ownsRow.kept h5 (grownBy_one w5 P 0 _) (Or.inr (fun e => by simp [Value.ownBlock] at e; omega))
end Go.Proofs.Ytcgpkonfneofdaa

namespace Go.Proofs.Ytcgpkonfneofdaa
open Go.RowKit

/-- The byte of a value that stands for the powers from 256 to the j on. -/
def valB (n : Int) (j : Nat) : Int := ((n % 18446744073709551616) / 2 ^ (8 * j)) % 256
def valL (n : Int) : List Int := [valB n 7, valB n 6, valB n 5, valB n 4, valB n 3, valB n 2, valB n 1, valB n 0]
theorem valL_take (n : Int) (k : Nat) (hk : k < 8) : (valL n).take (k + 1) = (valL n).take k ++ [valB n (7 - k)] := by
  match k, hk with
  | 0, _ => rfl
  | 1, _ => rfl
  | 2, _ => rfl
  | 3, _ => rfl
  | 4, _ => rfl
  | 5, _ => rfl
  | 6, _ => rfl
  | 7, _ => rfl
theorem news_u8 (w : World) (x : Int) : ∀ j u, [Value.int .u8 x][j]? = some u → (w.alloc (.cells #[.int .u8 x] 5)).drew.cell? ((⟨w.heap.size, 0, none⟩ : Addr).add j) = some u := by
  intro j u hj
  match j, hj with
  | 0, hj => simp at hj; subst hj; simp [Addr.add]
theorem byte_at (n : Int) (k : Nat) (hk : k < 8) : IntKind.u8.wrap (IntKind.u64.wrap n / 2 ^ (8 * (7 - (k : Int))).toNat) = valB n (7 - k) := by
  have e : (8 * (7 - (k : Int))).toNat = 8 * (7 - k) := by omega
  rw [e]
  simp [IntKind.wrap, IntKind.bits, IntKind.signed, valB]
theorem WK.of_drew {P : Nat} {w w' : World} (h : WK P w.drew w') : WK P w w' := ⟨h.os, h.tape, h.output, h.size, h.keep⟩
theorem wrap_i64_small {x : Int} (h : -9223372036854775808 ≤ x) (h' : x < 9223372036854775808) : IntKind.i64.wrap x = x := by simp [IntKind.wrap, IntKind.bits, IntKind.signed]; omega
set_option maxRecDepth 100000 in
set_option maxHeartbeats 2000000 in
/-- A value: eight bytes more. -/
theorem wrValue_any (P : Nat) (n : Int) (bs : List Int) (w : World) (h : WrS P w bs) (hl : bs.length ≤ 90000) :
    Calls Try.prog 141 #[.pointer (some ⟨P, 0, none⟩), .int .i64 n] w fun e w' => e = .returned (.tuple #[]) ∧ WrS P w' (bs ++ valL n) ∧ WK P w w' := by
  obtain ⟨i0, hi, hz0, hz1, hz2⟩ := info_parts Try.info5
  have H0 : Hid (WrS P w bs) := h
  clear h
  go_enter Try.func141, Try.ntmps141
  go_wp2
  go_loopw [4] (fun i wr => ∃ k : Nat, k ≤ 8 ∧ i = .int .i64 (7 - (k : Int)) ∧ Hid (WrS P wr (bs ++ (valL n).take k)) ∧ Hid (WK P w wr)) (fun i _ => (intOf i + 1).toNat)
  case atStart => exact ⟨0, by omega, rfl, by simpa using H0, WK.refl _ _⟩
  case round =>
    obtain ⟨k, hk, rfl, hW, hK⟩ := hrel
    by_cases hlt : k < 8
    · have hge : (7 : Int) - (k : Int) ≥ 0 := by omega
      obtain ⟨bt, hbt⟩ : ∃ x, x = bs ++ (valL n).take k := ⟨_, rfl⟩
      have hbl : bt.length ≤ 90008 := by rw [hbt, List.length_append, List.length_take]; omega
      rw [← hbt] at hW
      obtain ⟨v, hc, hf, hown⟩ := hW.out
      have hP : P < wr.heap.size := World.block_lt_of_cell? wr ⟨P, 0, none⟩ hc
      have HRB : Hid (∀ g, v.ownBlock = some g → P + 1 ≤ g ∧ g < wr.heap.size) := fun g hg => hown.lt g hg
      have HRK : Hid (∀ g, v.ownBlock = some g → ∃ c fz, wr.heap[g]? = some (.cells c 5 fz)) := Lib.ownsRow_kind hown
      have HO : Hid (wr.ownsRow (P + 1) 5 1 v bt.length (bt.map (Value.int .u8))) := hown
      have HOd : Hid (∀ o, (wr.alloc o).drew.ownsRow (P + 1) 5 1 v bt.length (bt.map (Value.int .u8))) := fun o => hown.alloc o
      have HX : Hid (∀ (o : Obj) (w5 : World), (wr.alloc o).drew.grownBy w5 v.ownBlock → w5.cell? ⟨P, 0, none⟩ = some v ∧ w5.frozen? ⟨P, 0, none⟩ = false ∧ WK P wr w5) := fun o w5 hg => wr_after hc hf (o := o) ⟨hg.os, hg.tape, hg.output, hg.size, hg.block⟩ HRB.out HRK.out
      have HBT : Hid (bt = bs ++ (valL n).take k) := hbt
      clear hown hW hbt
      have hca : ∀ o, (wr.alloc o).cell? ⟨P, 0, none⟩ = some v := fun o => by rw [World.cell?_alloc_lt _ _ _ (by simpa using hP)]; exact hc
      have hsh : 0 ≤ (8 : Int) * (7 - (k : Int)) := by omega
      have hsh2 : (8 : Int) * (7 - (k : Int)) < 64 := by omega
      have hwr : IntKind.i64.wrap (8 * (7 - (k : Int))) = 8 * (7 - (k : Int)) := wrap_i64_small (by omega) (by omega)
      go_wp2_with fail
      go_region_law (first
        | (refine step_append_keep (by rfl) _ _ _ (by rfl) (P + 1) 5 i0 (.int .u8 0) 1 Try.underlying95 hi hz0 hz1 hz2 rfl v bt.length (bt.map (Value.int .u8)) (by rfl) (HOd.out _) _ 1 1 [.int .u8 (IntKind.u8.wrap (IntKind.u64.wrap n / 2 ^ (8 * (7 - (k : Int))).toNat))] (by rfl) (by rfl) (news_u8 _ _) (ints_oneCell .u8 [_]) (by unfold maxLen; omega) (by omega) (by simp; omega) ?_; intro v' w5 ho3 hg3 hkeep; obtain ⟨g, cap, hv, hg1, hg2⟩ := ho3.form (Nat.succ_pos _); subst hv; obtain ⟨hc5, hf5, hk5⟩ := HX.out _ w5 hg3; have HO5 : Hid _ := ho3; have HK5 : Hid (WK P wr w5) := hk5; clear ho3 hg3 hk5 hkeep hc hf))
      all_goals (
        have hne : P ≠ g := by omega
        have h5 := HO5.out
        rw [byte_at n k hlt] at h5
        go_wp2_with fail
        go_roundw
        case rel =>
          refine ⟨k + 1, by omega, by go_num, ⟨_, set_here hc5, by simpa using hf5, ?_⟩, hK.out.trans (HK5.out.trans ⟨rfl, rfl, rfl, by simp, fun b hb hbP _ => Below.heap_setCell _ _ _ _ hbP⟩)⟩
          rw [valL_take n k hlt, ← List.append_assoc, ← HBT.out, List.length_append, List.map_append]
          exact World.ownsRow.kept h5 (grownBy_one w5 P 0 _) (Or.inr (fun e => by simp [Value.ownBlock] at e; omega))
        case measure => simp [intOf]; omega)
    · have hk8 : k = 8 := by omega
      subst hk8
      go_wp2
      go_end0
      exact ⟨rfl, by simpa [valL] using hW.out, hK.out⟩
end Go.Proofs.Ytcgpkonfneofdaa

namespace Go.Proofs.Ytcgpkonfneofdaa
open Go.RowKit

theorem WrS.alloc {P : Nat} {w : World} {bs : List Int} (h : WrS P w bs) (o : Obj) : WrS P (w.alloc o) bs := by
  obtain ⟨v, hc, hf, ho⟩ := h
  have hP : P < w.heap.size := World.block_lt_of_cell? w ⟨P, 0, none⟩ hc
  have e : (w.alloc o).heap[P]? = w.heap[P]? := Below.heap_alloc _ _ _ hP
  exact ⟨v, (World.cell?_of_block (a := ⟨P, 0, none⟩) e).trans hc, (World.frozen?_of_block (a := ⟨P, 0, none⟩) e).trans hf, ho.alloc o⟩
theorem WrS.lt {P : Nat} {w : World} {bs : List Int} (h : WrS P w bs) : P < w.heap.size := by
  obtain ⟨v, hc, _, _⟩ := h
  exact World.block_lt_of_cell? w ⟨P, 0, none⟩ hc
theorem noB_alloc (w : World) (c : Array Value) (t : TypeId) (ht : t ≠ 5) : NoBytes (w.alloc (.cells c t)) w.heap.size := by
  intro c' fz e
  have e' : (w.alloc (.cells c t)).heap[w.heap.size]? = some (.cells c t) := by unfold World.alloc; simp
  rw [e'] at e
  simp at e
  exact ht e.2.1
/-- An operand's bytes. -/
def opB (kd n : Int) : List Int := (kd % 256) :: valL n
theorem opB_len (kd n : Int) : (opB kd n).length = 9 := rfl
set_option maxRecDepth 100000 in
set_option maxHeartbeats 1000000 in
theorem operand_any (P : Nat) (kd n : Int) (bs : List Int) (w : World) (h : WrS P w bs) (hl : bs.length ≤ 80000) :
    Calls Try.prog 129 #[.pointer (some ⟨P, 0, none⟩), .agg #[.int .i64 kd, .int .i64 n]] w fun e w' => e = .returned (.tuple #[]) ∧ WrS P w' (bs ++ opB kd n) ∧ WK P w w' := by
  have hP := h.lt
  have H : Hid (WrS P w bs) := h
  clear h
  go_enter Try.func129, Try.ntmps129
  go_wp2_with fail
  refine (number_any P kd bs _ (H.out.alloc _) (by omega)).mono ?_
  rintro e w1 ⟨rfl, h1, k1⟩
  have c1 : w1.cell? ⟨w.heap.size, 1, none⟩ = some (.int .i64 n) := k1.cell (by simp) (by omega) (Or.inr (noB_alloc _ _ _ (by decide)))
  have H1 : Hid (WrS P w1 (bs ++ [kd % 256])) := h1
  have K1 : Hid (WK P w w1) := ((WK.refl P w).alloc _).trans k1
  clear h1 k1
  go_wp2_with fail
  refine (wrValue_any P n _ _ H1.out (by simp; omega)).mono ?_
  rintro e w2 ⟨rfl, h2, k2⟩
  have H2 : Hid (WrS P w2 (bs ++ [kd % 256] ++ valL n)) := h2
  have K2 : Hid (WK P w w2) := K1.out.trans k2
  clear h2 k2
  go_wp2_with fail
  go_end0
  exact ⟨rfl, by simpa [opB] using H2.out, K2.out⟩
end Go.Proofs.Ytcgpkonfneofdaa

namespace Go.Proofs.Ytcgpkonfneofdaa
open Go.RowKit

theorem noB_kept {P b : Nat} {w w' : World} (h : NoBytes w b) (k : WK P w w') (hb : b < w.heap.size) (hP : b ≠ P) : NoBytes w' b := fun c fz e => h c fz ((k.keep b hb hP (Or.inr h)) ▸ e)

/-- A guard's bytes. -/
def gdB (kd ak an bk bn : Int) : List Int := (kd % 256) :: (opB ak an ++ opB bk bn)
set_option maxRecDepth 100000 in
set_option maxHeartbeats 1000000 in
theorem wrGuard_any (P : Nat) (kd ak an bk bn : Int) (bs : List Int) (w : World) (h : WrS P w bs) (hl : bs.length ≤ 70000) :
    Calls Try.prog 109 #[.pointer (some ⟨P, 0, none⟩), .agg #[.int .i64 kd, .int .i64 ak, .int .i64 an, .int .i64 bk, .int .i64 bn]] w fun e w' => e = .returned (.tuple #[]) ∧ WrS P w' (bs ++ gdB kd ak an bk bn) ∧ WK P w w' := by
  have hP := h.lt
  have H0 : Hid (WrS P (w.alloc (.cells #[.int .i64 kd, .int .i64 ak, .int .i64 an, .int .i64 bk, .int .i64 bn] 101)) bs) := h.alloc _
  have K0 : Hid (WK P w (w.alloc (.cells #[.int .i64 kd, .int .i64 ak, .int .i64 an, .int .i64 bk, .int .i64 bn] 101))) := (WK.refl P w).alloc _
  have N0 : Hid (NoBytes (w.alloc (.cells #[.int .i64 kd, .int .i64 ak, .int .i64 an, .int .i64 bk, .int .i64 bn] 101)) w.heap.size) := noB_alloc _ _ _ (by decide)
  have c0 : (w.alloc (.cells #[.int .i64 kd, .int .i64 ak, .int .i64 an, .int .i64 bk, .int .i64 bn] 101)).cell? ⟨w.heap.size, 0, none⟩ = some (.int .i64 kd) := by simp
  have c1 : (w.alloc (.cells #[.int .i64 kd, .int .i64 ak, .int .i64 an, .int .i64 bk, .int .i64 bn] 101)).cell? ⟨w.heap.size, 1, none⟩ = some (.int .i64 ak) := by simp
  have c2 : (w.alloc (.cells #[.int .i64 kd, .int .i64 ak, .int .i64 an, .int .i64 bk, .int .i64 bn] 101)).cell? ⟨w.heap.size, 2, none⟩ = some (.int .i64 an) := by simp
  have c3 : (w.alloc (.cells #[.int .i64 kd, .int .i64 ak, .int .i64 an, .int .i64 bk, .int .i64 bn] 101)).cell? ⟨w.heap.size, 3, none⟩ = some (.int .i64 bk) := by simp
  have c4 : (w.alloc (.cells #[.int .i64 kd, .int .i64 ak, .int .i64 an, .int .i64 bk, .int .i64 bn] 101)).cell? ⟨w.heap.size, 4, none⟩ = some (.int .i64 bn) := by simp
  have S0 : Hid (w.heap.size < (w.alloc (.cells #[.int .i64 kd, .int .i64 ak, .int .i64 an, .int .i64 bk, .int .i64 bn] 101)).heap.size) := by show _ < _; simp
  clear h
  go_enter Try.func109, Try.ntmps109
  go_wp2_with fail
  refine (number_any P kd _ _ H0.out (by first | omega | (simp; omega) | (simp [opB_len]; omega))).mono ?_
  rintro e w1 ⟨rfl, h, k⟩
  have H1 : Hid (WrS P w1 (bs ++ [kd % 256])) := h
  have K1 : Hid (WK P w w1) := K0.out.trans k
  have N1 : Hid (NoBytes w1 w.heap.size) := noB_kept N0.out k S0.out (by omega)
  have S1 : Hid (w.heap.size < w1.heap.size) := Nat.lt_of_lt_of_le S0.out k.size
  have c1 := k.cell c1 (by omega) (Or.inr N0.out)
  have c2 := k.cell c2 (by omega) (Or.inr N0.out)
  have c3 := k.cell c3 (by omega) (Or.inr N0.out)
  have c4 := k.cell c4 (by omega) (Or.inr N0.out)
  clear h k
  go_wp2_with fail
  refine (operand_any P ak an _ _ H1.out (by first | omega | (simp; omega) | (simp [opB_len]; omega))).mono ?_
  rintro e w2 ⟨rfl, h, k⟩
  have H2 : Hid (WrS P w2 (bs ++ [kd % 256] ++ opB ak an)) := h
  have K2 : Hid (WK P w w2) := K1.out.trans k
  have N2 : Hid (NoBytes w2 w.heap.size) := noB_kept N1.out k S1.out (by omega)
  have S2 : Hid (w.heap.size < w2.heap.size) := Nat.lt_of_lt_of_le S1.out k.size
  have c3 := k.cell c3 (by omega) (Or.inr N1.out)
  have c4 := k.cell c4 (by omega) (Or.inr N1.out)
  clear h k
  go_wp2_with fail
  refine (operand_any P bk bn _ _ H2.out (by first | omega | (simp; omega) | (simp [opB_len]; omega))).mono ?_
  rintro e w3 ⟨rfl, h, k⟩
  have H3 : Hid (WrS P w3 (bs ++ [kd % 256] ++ opB ak an ++ opB bk bn)) := h
  have K3 : Hid (WK P w w3) := K2.out.trans k
  have N3 : Hid (NoBytes w3 w.heap.size) := noB_kept N2.out k S2.out (by omega)
  have S3 : Hid (w.heap.size < w3.heap.size) := Nat.lt_of_lt_of_le S2.out k.size
  clear h k
  go_wp2_with fail
  go_end0
  exact ⟨rfl, by simpa [gdB] using H3.out, K3.out⟩

/-- A set's bytes. -/
def stB (key op ak an bk bn : Int) : List Int := (key % 256) :: (op % 256) :: (opB ak an ++ opB bk bn)
set_option maxRecDepth 100000 in
set_option maxHeartbeats 1000000 in
theorem wrSet_any (P : Nat) (key op ak an bk bn : Int) (bs : List Int) (w : World) (h : WrS P w bs) (hl : bs.length ≤ 70000) :
    Calls Try.prog 111 #[.pointer (some ⟨P, 0, none⟩), .agg #[.int .i64 key, .int .i64 op, .int .i64 ak, .int .i64 an, .int .i64 bk, .int .i64 bn]] w fun e w' => e = .returned (.tuple #[]) ∧ WrS P w' (bs ++ stB key op ak an bk bn) ∧ WK P w w' := by
  have hP := h.lt
  have H0 : Hid (WrS P (w.alloc (.cells #[.int .i64 key, .int .i64 op, .int .i64 ak, .int .i64 an, .int .i64 bk, .int .i64 bn] 47)) bs) := h.alloc _
  have K0 : Hid (WK P w (w.alloc (.cells #[.int .i64 key, .int .i64 op, .int .i64 ak, .int .i64 an, .int .i64 bk, .int .i64 bn] 47))) := (WK.refl P w).alloc _
  have N0 : Hid (NoBytes (w.alloc (.cells #[.int .i64 key, .int .i64 op, .int .i64 ak, .int .i64 an, .int .i64 bk, .int .i64 bn] 47)) w.heap.size) := noB_alloc _ _ _ (by decide)
  have c0 : (w.alloc (.cells #[.int .i64 key, .int .i64 op, .int .i64 ak, .int .i64 an, .int .i64 bk, .int .i64 bn] 47)).cell? ⟨w.heap.size, 0, none⟩ = some (.int .i64 key) := by simp
  have c1 : (w.alloc (.cells #[.int .i64 key, .int .i64 op, .int .i64 ak, .int .i64 an, .int .i64 bk, .int .i64 bn] 47)).cell? ⟨w.heap.size, 1, none⟩ = some (.int .i64 op) := by simp
  have c2 : (w.alloc (.cells #[.int .i64 key, .int .i64 op, .int .i64 ak, .int .i64 an, .int .i64 bk, .int .i64 bn] 47)).cell? ⟨w.heap.size, 2, none⟩ = some (.int .i64 ak) := by simp
  have c3 : (w.alloc (.cells #[.int .i64 key, .int .i64 op, .int .i64 ak, .int .i64 an, .int .i64 bk, .int .i64 bn] 47)).cell? ⟨w.heap.size, 3, none⟩ = some (.int .i64 an) := by simp
  have c4 : (w.alloc (.cells #[.int .i64 key, .int .i64 op, .int .i64 ak, .int .i64 an, .int .i64 bk, .int .i64 bn] 47)).cell? ⟨w.heap.size, 4, none⟩ = some (.int .i64 bk) := by simp
  have c5 : (w.alloc (.cells #[.int .i64 key, .int .i64 op, .int .i64 ak, .int .i64 an, .int .i64 bk, .int .i64 bn] 47)).cell? ⟨w.heap.size, 5, none⟩ = some (.int .i64 bn) := by simp
  have S0 : Hid (w.heap.size < (w.alloc (.cells #[.int .i64 key, .int .i64 op, .int .i64 ak, .int .i64 an, .int .i64 bk, .int .i64 bn] 47)).heap.size) := by show _ < _; simp
  clear h
  go_enter Try.func111, Try.ntmps111
  go_wp2_with fail
  refine (number_any P key _ _ H0.out (by first | omega | (simp; omega) | (simp [opB_len]; omega))).mono ?_
  rintro e w1 ⟨rfl, h, k⟩
  have H1 : Hid (WrS P w1 (bs ++ [key % 256])) := h
  have K1 : Hid (WK P w w1) := K0.out.trans k
  have N1 : Hid (NoBytes w1 w.heap.size) := noB_kept N0.out k S0.out (by omega)
  have S1 : Hid (w.heap.size < w1.heap.size) := Nat.lt_of_lt_of_le S0.out k.size
  have c1 := k.cell c1 (by omega) (Or.inr N0.out)
  have c2 := k.cell c2 (by omega) (Or.inr N0.out)
  have c3 := k.cell c3 (by omega) (Or.inr N0.out)
  have c4 := k.cell c4 (by omega) (Or.inr N0.out)
  have c5 := k.cell c5 (by omega) (Or.inr N0.out)
  clear h k
  go_wp2_with fail
  refine (number_any P op _ _ H1.out (by first | omega | (simp; omega) | (simp [opB_len]; omega))).mono ?_
  rintro e w2 ⟨rfl, h, k⟩
  have H2 : Hid (WrS P w2 (bs ++ [key % 256] ++ [op % 256])) := h
  have K2 : Hid (WK P w w2) := K1.out.trans k
  have N2 : Hid (NoBytes w2 w.heap.size) := noB_kept N1.out k S1.out (by omega)
  have S2 : Hid (w.heap.size < w2.heap.size) := Nat.lt_of_lt_of_le S1.out k.size
  have c2 := k.cell c2 (by omega) (Or.inr N1.out)
  have c3 := k.cell c3 (by omega) (Or.inr N1.out)
  have c4 := k.cell c4 (by omega) (Or.inr N1.out)
  have c5 := k.cell c5 (by omega) (Or.inr N1.out)
  clear h k
  go_wp2_with fail
  refine (operand_any P ak an _ _ H2.out (by first | omega | (simp; omega) | (simp [opB_len]; omega))).mono ?_
  rintro e w3 ⟨rfl, h, k⟩
  have H3 : Hid (WrS P w3 (bs ++ [key % 256] ++ [op % 256] ++ opB ak an)) := h
  have K3 : Hid (WK P w w3) := K2.out.trans k
  have N3 : Hid (NoBytes w3 w.heap.size) := noB_kept N2.out k S2.out (by omega)
  have S3 : Hid (w.heap.size < w3.heap.size) := Nat.lt_of_lt_of_le S2.out k.size
  have c4 := k.cell c4 (by omega) (Or.inr N2.out)
  have c5 := k.cell c5 (by omega) (Or.inr N2.out)
  clear h k
  go_wp2_with fail
  refine (operand_any P bk bn _ _ H3.out (by first | omega | (simp; omega) | (simp [opB_len]; omega))).mono ?_
  rintro e w4 ⟨rfl, h, k⟩
  have H4 : Hid (WrS P w4 (bs ++ [key % 256] ++ [op % 256] ++ opB ak an ++ opB bk bn)) := h
  have K4 : Hid (WK P w w4) := K3.out.trans k
  have N4 : Hid (NoBytes w4 w.heap.size) := noB_kept N3.out k S3.out (by omega)
  have S4 : Hid (w.heap.size < w4.heap.size) := Nat.lt_of_lt_of_le S3.out k.size
  clear h k
  go_wp2_with fail
  go_end0
  exact ⟨rfl, by simpa [stB] using H4.out, K4.out⟩
end Go.Proofs.Ytcgpkonfneofdaa

namespace Go.Proofs.Ytcgpkonfneofdaa
open Go.RowKit

theorem take_map_succ {α β : Type} (f : α → β) (l : List α) (d : α) (k : Nat) (h : k < l.length) : (l.take (k + 1)).map f = (l.take k).map f ++ [f (l.getD k d)] := by
  rw [List.take_add_one, List.map_append]
  simp [List.getD, h]
/-- The bytes of a list of whole numbers. -/
def zsB (zs : List Int) : List Int := ((zs.length : Int) % 256) :: zs.map (· % 256)
set_option maxRecDepth 100000 in
set_option maxHeartbeats 1000000 in
theorem wrInts_any (P : Nat) (zs : List Int) (za : Option Addr) (zc : Nat) (bs : List Int) (w : World) (h : WrS P w bs) (hl : bs.length ≤ 60000) (h8 : zs.length ≤ 100) (hz : ∀ w', Below P w w' → IsInts w' za zs) :
    Calls Try.prog 107 #[.pointer (some ⟨P, 0, none⟩), .slice za zs.length zc, .func (.func 85) #[.pointer (some ⟨P, 0, none⟩)] #[]] w fun e w' => e = .returned (.tuple #[]) ∧ WrS P w' (bs ++ zsB zs) ∧ WK P w w' := by
  have hP := h.lt
  have H0 : Hid (WrS P w bs) := h
  have HZ : Hid (∀ w', Below P w w' → IsInts w' za zs) := hz
  clear h hz
  go_enter Try.func107, Try.ntmps107
  go_wp2_with fail
  refine (number_any P zs.length bs _ H0.out (by omega)).mono ?_
  rintro e w1 ⟨rfl, h1, k1⟩
  have H1 : Hid (WrS P w1 (bs ++ [(zs.length : Int) % 256])) := h1
  have K1 : Hid (WK P w w1) := k1
  clear h1 k1
  go_wp2
  go_loopw [14] (fun i wr => ∃ k : Nat, k ≤ zs.length ∧ i = .int .i64 k ∧ Hid (WrS P wr (bs ++ [(zs.length : Int) % 256] ++ (zs.take k).map (· % 256))) ∧ Hid (WK P w wr)) (fun i _ => zs.length - (intOf i).toNat)
  case atStart => exact ⟨0, Nat.zero_le _, rfl, by simpa using H1, K1⟩
  case round =>
    obtain ⟨k, hk, rfl, hW, hK⟩ := hrel
    by_cases hlt : k < zs.length
    · obtain ⟨b, off, hza, hb, hc⟩ := HZ.out wr (hK.out.below hP) k hlt
      subst hza
      obtain ⟨x, hx⟩ : ∃ x, zs.getD k 0 = x := ⟨_, rfl⟩
      rw [hx] at hc
      have HXK : Hid (zs.getD k 0 = x) := hx
      clear hx
      go_wp2_with fail
      refine (number_any P _ _ _ hW.out (by simp; omega)).mono ?_
      rintro e w3 ⟨rfl, h3, k3⟩
      have H3 : Hid (WrS P w3 (bs ++ [(zs.length : Int) % 256] ++ (zs.take (k + 1)).map (· % 256))) := by
        rw [take_map_succ _ zs 0 k hlt, HXK.out, ← List.append_assoc]; exact h3
      have K3 : Hid (WK P w w3) := hK.out.trans k3
      clear h3 k3 hW hK
      go_wp2
      go_roundw
      case rel => exact ⟨k + 1, by omega, by go_num, H3, K3⟩
      case measure => simp [intOf]; omega
    · have hk8 : k = zs.length := by omega
      subst hk8
      have H4 : Hid (WrS P wr (bs ++ zsB zs)) := by
        have := hW.out
        rw [List.take_length] at this
        show WrS P wr _
        simpa [zsB] using this
      clear hW
      go_wp2
      go_end0
      exact ⟨rfl, H4.out, hK.out⟩
end Go.Proofs.Ytcgpkonfneofdaa
