/-
  seq.From: where a transaction of the sequence comes from.
  Conditions: the batches can be read.
-/
import Derived.Test.YtfogphljilgogaaSeqG
import Derived.RangeFuncNested
import Derived.RangeFuncBound
import Derived.RangeFuncCalls
import Derived.RangeFuncLeaves
import Derived.RangeFuncFrom
import Derived.Shelf.Abstract
import Derived.Shelf.RegionOpen
import Derived.WalkKit
import Derived.OwnWalkIn
import Derived.TacticsInMore
import Derived.LoopNIn
import Derived.LoopIn
import Derived.ProofKit
namespace Go.Proofs.Ytfogphljilgogaa
open Go.RowKit Go.Shelf
attribute [local go_sem] Oper.semAt_some

/-- Where the n-th comes from. -/
def seek : List EvA → Int → Option (Nat × Nat × Int)
  | [], _ => none
  | x :: t, n => if n < x.b.l.length then some (x.s, x.e, n) else seek t (n - x.b.l.length)
def fromO (ss : List StA) (n : Int) : Option (Nat × Nat × Int) := if n < 0 then none else seek (evs ss) n
def fromS (o : Option (Nat × Nat × Int)) : Int := match o with | some (s, _, _) => s | none => 0
def fromE (o : Option (Nat × Nat × Int)) : Int := match o with | some (_, e, _) => e | none => 0
def fromK (o : Option (Nat × Nat × Int)) : Int := match o with | some (_, _, k) => k | none => 0
def fromR (o : Option (Nat × Nat × Int)) : Int := match o with | some _ => 0 | none => 5

variable (qa : Option Addr) (qc : Nat) (ss : List StA) (n : Int)

/-- The five cells of From: n, and what it tells. -/
def Five (B : Nat) (W : World) (a b c d e : Int) : Prop :=
  W.cell? ⟨B, 0, none⟩ = some (.int .i64 a) ∧ W.frozen? ⟨B, 0, none⟩ = false ∧ W.cell? ⟨B + 1, 0, none⟩ = some (.int .i64 b) ∧ W.frozen? ⟨B + 1, 0, none⟩ = false ∧ W.cell? ⟨B + 1 + 1, 0, none⟩ = some (.int .i64 c) ∧ W.frozen? ⟨B + 1 + 1, 0, none⟩ = false ∧ W.cell? ⟨B + 1 + 1 + 1, 0, none⟩ = some (.int .i64 d) ∧ W.frozen? ⟨B + 1 + 1 + 1, 0, none⟩ = false ∧ W.cell? ⟨B + 1 + 1 + 1 + 1, 0, none⟩ = some (.int .i64 e) ∧ W.frozen? ⟨B + 1 + 1 + 1 + 1, 0, none⟩ = false
theorem Five.below {B : Nat} {W W' : World} {a b c d e : Int} (h : Five B W a b c d e) (hb : Below W.heap.size W W') : Five B W' a b c d e := by
  obtain ⟨h0, f0, h1, f1, h2, f2, h3, f3, h4, f4⟩ := h
  have fr : ∀ {p : Addr} {v : Value}, W.cell? p = some v → W.frozen? p = false → W'.frozen? p = false := fun hc hf => (hb.frozen (World.block_lt_of_cell? W _ hc)).trans hf
  exact ⟨ext_cell hb h0, fr h0 f0, ext_cell hb h1, fr h1 f1, ext_cell hb h2, fr h2 f2, ext_cell hb h3, fr h3 f3, ext_cell hb h4, fr h4 f4⟩
theorem Five.own {B : Nat} {W W' : World} {row : Option Nat} {a b c d e : Int} (h : Five B W a b c d e) (hg : W.grownBy W' row) (hr : ∀ r, row = some r → ∃ o : Obj, W.heap[r]? = some o ∧ o.isCells = false) : Five B W' a b c d e := by
  obtain ⟨h0, f0, h1, f1, h2, f2, h3, f3, h4, f4⟩ := h
  exact ⟨cell_kept h0 hg hr, (frozen_kept h0 hg hr).trans f0, cell_kept h1 hg hr, (frozen_kept h1 hg hr).trans f1, cell_kept h2 hg hr, (frozen_kept h2 hg hr).trans f2, cell_kept h3 hg hr, (frozen_kept h3 hg hr).trans f3, cell_kept h4 hg hr, (frozen_kept h4 hg hr).trans f4⟩

def five (w : World) (n : Int) : World := ((((w.alloc (.cells #[.int .i64 n] 3)).alloc (.cells #[.int .i64 0] 3)).alloc (.cells #[.int .i64 0] 3)).alloc (.cells #[.int .i64 0] 3)).alloc (.cells #[.int .i64 0] 29)
theorem five_is (w : World) (n : Int) : Five w.heap.size (five w n) n 0 0 0 0 := by
  have h0 := box_new w (.int .i64 n) 3
  have h1 := box_new (w.alloc (.cells #[.int .i64 n] 3)) (.int .i64 0) 3
  have h2 := box_new ((w.alloc (.cells #[.int .i64 n] 3)).alloc (.cells #[.int .i64 0] 3)) (.int .i64 0) 3
  have h3 := box_new (((w.alloc (.cells #[.int .i64 n] 3)).alloc (.cells #[.int .i64 0] 3)).alloc (.cells #[.int .i64 0] 3)) (.int .i64 0) 3
  have h4 := box_new ((((w.alloc (.cells #[.int .i64 n] 3)).alloc (.cells #[.int .i64 0] 3)).alloc (.cells #[.int .i64 0] 3)).alloc (.cells #[.int .i64 0] 3)) (.int .i64 0) 29
  simp only [World.size_alloc] at h1 h2 h3 h4
  have f0 := box_frozen (.cells #[.int .i64 0] 3) h0.1 h0.2
  have c0 := box_cell (.cells #[.int .i64 0] 3) h0.1
  have f0 := box_frozen (.cells #[.int .i64 0] 3) c0 f0
  have c0 := box_cell (.cells #[.int .i64 0] 3) c0
  have f0 := box_frozen (.cells #[.int .i64 0] 3) c0 f0
  have c0 := box_cell (.cells #[.int .i64 0] 3) c0
  have f1 := box_frozen (.cells #[.int .i64 0] 3) h1.1 h1.2
  have c1 := box_cell (.cells #[.int .i64 0] 3) h1.1
  have f1 := box_frozen (.cells #[.int .i64 0] 3) c1 f1
  have c1 := box_cell (.cells #[.int .i64 0] 3) c1
  have f2 := box_frozen (.cells #[.int .i64 0] 3) h2.1 h2.2
  have c2 := box_cell (.cells #[.int .i64 0] 3) h2.1
  exact ⟨box_cell _ c0, box_frozen _ c0 f0, box_cell _ c1, box_frozen _ c1 f1, box_cell _ c2, box_frozen _ c2 f2, box_cell _ h3.1, box_frozen _ h3.1 h3.2, h4.1, h4.2⟩
theorem five_below (w : World) (n : Int) : Below w.heap.size w (five w n) := grow_alloc (grow_alloc (grow_alloc (grow_alloc (grow_alloc (Below.refl _ _) _) _) _) _) _
theorem five_size (w : World) (n : Int) : (five w n).heap.size = w.heap.size + 5 := by simp [five]

/-- What From tells, laid into its cells. -/
abbrev tell (B : Nat) (W : World) (b c d e : Int) : World := (((W.setCell ⟨B + 1, 0, none⟩ (.int .i64 b)).setCell ⟨B + 1 + 1, 0, none⟩ (.int .i64 c)).setCell ⟨B + 1 + 1 + 1, 0, none⟩ (.int .i64 d)).setCell ⟨B + 1 + 1 + 1 + 1, 0, none⟩ (.int .i64 e)
theorem Five.tell {B : Nat} {W : World} {a b c d e : Int} (h : Five B W a b c d e) (b' c' d' e' : Int) : Five B (tell B W b' c' d' e') a b' c' d' e' := by
  obtain ⟨h0, f0, h1, f1, h2, f2, h3, f3, h4, f4⟩ := h
  refine ⟨?_, ?_, ?_, ?_, ?_, ?_, ?_, ?_, ?_, ?_⟩ <;> simp [go_sem, h0, f0, h1, f1, h2, f2, h3, f3, h4, f4]
theorem Five.left {B : Nat} {W : World} {a b c d e : Int} (h : Five B W a b c d e) (a' : Int) : Five B (W.setCell ⟨B, 0, none⟩ (.int .i64 a')) a' b c d e := by
  obtain ⟨h0, f0, h1, f1, h2, f2, h3, f3, h4, f4⟩ := h
  refine ⟨?_, ?_, ?_, ?_, ?_, ?_, ?_, ?_, ?_, ?_⟩ <;> simp [go_sem, h0, f0, h1, f1, h2, f2, h3, f3, h4, f4]
theorem tell_below {B C : Nat} {W : World} (hC : C ≤ B) (b c d e : Int) : Below C W (tell B W b c d e) :=
  ((((Below.refl C W).setCell (p := ⟨B + 1, 0, none⟩) (by show C ≤ B + 1; omega) _).setCell (p := ⟨B + 1 + 1, 0, none⟩) (by show C ≤ B + 1 + 1; omega) _).setCell (p := ⟨B + 1 + 1 + 1, 0, none⟩) (by show C ≤ B + 1 + 1 + 1; omega) _).setCell (p := ⟨B + 1 + 1 + 1 + 1, 0, none⟩) (by show C ≤ B + 1 + 1 + 1 + 1; omega) _
theorem tell_keeps (B : Nat) (W : World) (b c d e : Int) : KeepsOthers W (tell B W b c d e) :=
  (((KeepsOthers.setCell _ _ _).trans (KeepsOthers.setCell _ _ _)).trans (KeepsOthers.setCell _ _ _)).trans (KeepsOthers.setCell _ _ _)
theorem seek_hit {p : List EvA} {y : EvA} {n m : Int} (h : ∀ rest, seek (p ++ rest) n = seek rest m) (hlt : m < y.b.l.length) {es : List EvA} (he : p ++ [y] <+: es) : seek es n = some (y.s, y.e, m) := by
  obtain ⟨t, rfl⟩ := he
  rw [List.append_assoc, h]
  simp [seek, hlt]
theorem seek_on {p : List EvA} {y : EvA} {n m : Int} (h : ∀ rest, seek (p ++ rest) n = seek rest m) (hlt : ¬ m < y.b.l.length) : ∀ rest, seek ((p ++ [y]) ++ rest) n = seek rest (m - y.b.l.length) := fun rest => by
  rw [List.append_assoc, h]
  simp only [List.cons_append, List.nil_append, seek]
  rw [if_neg hlt]

def IFr (Bs : Nat) (sv : Value) (n : Int) (w : World) {P : EvA → Prop} (pre : List (Ev w P)) (W : World) : Prop :=
  ((∃ q : Int, (0 ≤ q ∧ q ≤ n ∧ ∀ rest, seek (pre.map Subtype.val ++ rest) n = seek rest q) ∧ Five w.heap.size W q 0 0 0 0) ∧ W.cell? ⟨Bs, 0, none⟩ = some sv) ∧ Below w.heap.size w W
def XFr (n : Int) (w : World) {P : EvA → Prop} (c : Code) (pre : List (Ev w P)) (W : World) : Prop :=
  (c = .ret ∧ ∃ (p : List (Ev w P)) (y : Ev w P) (q a : Int), (pre = p ++ [y] ∧ (∀ rest, seek (p.map Subtype.val ++ rest) n = seek rest q) ∧ q < y.1.b.l.length) ∧ Five w.heap.size W a y.1.s y.1.e q 0) ∧ Below w.heap.size w W

set_option maxRecDepth 100000 in
set_option maxHeartbeats 4000000 in
theorem from_ok (w : World) (hS : IsSt w qa ss) (hsl : ss.length ≤ maxLen) (hE : chkS ss = 0) (h0 : 0 ≤ n) (hnw : n ≤ 9223372036854775807) (hR : ∀ e ∈ evs ss, chkL e.b.l = 0) :
    Calls Try.prog 33 #[.slice qa ss.length qc, .int .i64 n] w fun e w' => e = .returned (.tuple #[.int .i64 (fromS (seek (evs ss) n)), .int .i64 (fromE (seek (evs ss) n)), .int .i64 (fromK (seek (evs ss) n)), .int .i64 (fromR (seek (evs ss) n))]) ∧ Below w.heap.size w w' := by
  have CC : Hid (∀ w', IsSt w' qa ss → Calls Try.prog 61 #[.slice qa ss.length qc] w' fun e w'' => e = .returned (.int .i64 0) ∧ Below w'.heap.size w' w'') := fun w' h => by
    have h := seqCheck_any qa qc ss w' h hsl
    rw [hE] at h
    exact h
  have HS : Hid (IsSt w qa ss) := hS
  have HF : Hid (Five w.heap.size (five w n) n 0 0 0 0) := five_is w n
  have HFB : Hid (Below w.heap.size w (five w n)) := five_below w n
  have hfs := five_size w n
  clear hS hE
  refine (callsIn_wide (n := 8)).1 ?_
  refine callsIn_of_wp_marks Try.func33 rfl trivial ?_ rfl
  simp only [Try.ntmps33, List.size_toArray, List.length_cons, List.length_nil, Nat.reduceAdd, Nat.reduceSub, Array.replicate_succ, Array.replicate_zero, List.push_toArray, List.append_toArray, List.nil_append, List.cons_append]
  have hn0 : ¬ n < 0 := by omega
  gi_wp2_with (first | (refine ⟨trivial, ?_⟩; gi_at_call 61; refine (callsIn_wide.2 (CC.out _ (HS.out.below HFB.out))).mono ?_; rintro e w1 ⟨rfl, hb1⟩; have HF1 := HF.out.below hb1; obtain ⟨k0, g0, k1, g1, k2, g2, k3, g3, k4, g4⟩ := HF1) | (refine ⟨trivial, ?_⟩; gi_at_call 62; refine (callsIn_wide.2 (byEpoch_any qa qc ss.length _)).mono ?_; rintro e w2 ⟨rfl, rfl⟩))
  have hbx := box_new w1 (.slice qa ss.length qc) 67
  have hB1 : Below w.heap.size w w1 := grow_trans HFB.out hb1
  have hB0 : Below w.heap.size w (w1.alloc (.cells #[.slice qa ss.length qc] 67)) := grow_alloc hB1 _
  have hws : w.heap.size + 5 ≤ w1.heap.size := by have := hb1.size; omega
  have HF0 : Five w.heap.size (w1.alloc (.cells #[.slice qa ss.length qc] 67)) n 0 0 0 0 := Five.below ⟨k0, g0, k1, g1, k2, g2, k3, g3, k4, g4⟩ (grow_alloc (Below.refl _ _) _)
  clear k0 g0 k1 g1 k2 g2 k3 g3 k4 g4
  refine wpIn_rangeFunc_ownH rfl (by omega) (gf := 88) (lb := #[.pointer (some ⟨w1.heap.size, 0, none⟩)]) rfl trivial (enters_of Try.func88 (by kernel_rfl) rfl)
    (byEpoch_stops qa qc ss (fun x => chkL x.b.l = 0) 7 (by omega) w _ HS.out hsl hR hB0 w1.heap.size hbx.1) kpE_t (kpE_b hB0.size (by simp)) (Below.refl _ _) (fun _ => rfl)
    (IFr w1.heap.size (.slice qa ss.length qc) n w)
    (XFr n w)
    (OwnFrom.and (Own.from (fun s A B row hs hg hr => by obtain ⟨⟨m, h1, h2⟩, h3⟩ := hs; exact ⟨⟨m, h1, h2.own hg hr⟩, cell_kept h3 hg hr⟩) _) (ownFrom_below (Nat.le_refl _) hB0.size))
    (fun c => OwnFrom.and (Own.from (fun s A B row hs hg hr => by obtain ⟨h1, p, y, m, a, h2, h3⟩ := hs; exact ⟨h1, p, y, m, a, h2, h3.own hg hr⟩) _) (ownFrom_below (Nat.le_refl _) hB0.size))
    ⟨⟨⟨n, ⟨h0, Int.le_refl _, fun rest => rfl⟩, HF0⟩, hbx.1⟩, hB0⟩
    (fun x a' W => ∃ X, (w1.heap.size < X ∧ W.cell? ⟨X, 0, none⟩ = some (.int .i64 x.1.s) ∧ W.cell? ⟨X, 1, none⟩ = some (.int .i64 x.1.e)) ∧ a' = { tmps := #[.slice qa ss.length qc, .int .i64 n, undef, .pointer (some ⟨w.heap.size, 0, none⟩), .pointer (some ⟨w.heap.size + 1, 0, none⟩), .pointer (some ⟨w.heap.size + 1 + 1, 0, none⟩), .pointer (some ⟨w.heap.size + 1 + 1 + 1, 0, none⟩), .pointer (some ⟨w.heap.size + 1 + 1 + 1 + 1, 0, none⟩), .int .i64 0, .pointer (some ⟨X, 0, none⟩), .slice x.1.b.a x.1.b.l.length x.1.b.c, .slice qa ss.length qc, .int .i64 0, .int .i64 0, .bool false, undef, .int .i64 n, .bool (decide (n < 0)), .slice qa ss.length qc, .func (.func 88) #[] #[.pointer (some ⟨w1.heap.size, 0, none⟩)], .agg #[.int .i64 x.1.s, .int .i64 x.1.e], .slice x.1.b.a x.1.b.l.length x.1.b.c, undef, undef, undef, undef, undef, undef, undef, undef, undef, undef, undef, undef, undef], defers := [] })
    (fun x a' => Own.from (fun s A B row hs hg hr => by obtain ⟨X, ⟨h1, h2, h3⟩, h4⟩ := hs; exact ⟨X, ⟨h1, cell_kept h2 hg hr, cell_kept h3 hg hr⟩, h4⟩) _) ?assign ?body ?done ?stop
  case assign =>
    rintro l pre x W K ⟨⟨⟨m, hm, hF5⟩, hbW⟩, hB⟩ hK
    have hU : Below W.heap.size W (W.alloc (.cells #[.int .i64 x.1.s, .int .i64 x.1.e] 104)) := grow_alloc (Below.refl _ _) _
    have hlt := World.block_lt_of_cell? W _ hbW
    gi_wp2
    exact hK _ _ ((keeps_below hU).from _) ⟨hU.mono hB.size, (ext_cell hU hbW).trans hbW.symm⟩ ⟨⟨⟨m, hm, hF5.below hU⟩, ext_cell hU hbW⟩, grow_trans hB hU⟩ ⟨W.heap.size, ⟨hlt, by simp, by simp⟩, rfl⟩
  case body =>
    rintro l pre x a' W hl ⟨r, hr⟩ ⟨⟨⟨m, ⟨hm0, hmn, hsk⟩, hF5⟩, hbW⟩, hB⟩ ⟨X, ⟨hX, x0, x1⟩, rfl⟩ hlen
    obtain ⟨k0, g0, k1, g1, k2, g2, k3, g3, k4, g4⟩ := hF5
    have HSK : Hid (∀ rest, seek (pre.map Subtype.val ++ rest) n = seek rest m) := hsk
    have HB : Hid (Below w.heap.size w W) := hB
    clear hsk hB
    have HF5 : Hid (Five w.heap.size W m 0 0 0 0) := ⟨k0, g0, k1, g1, k2, g2, k3, g3, k4, g4⟩
    by_cases hlt : m < x.1.b.l.length
    · have hmx : Try.prog.follows .mixedOrders = true := by kernel_rfl
      have HL : Hid (KeepsFrom (w1.alloc (.cells #[.slice qa ss.length qc] 67)).heap.size W (tell w.heap.size W x.1.s x.1.e m 0).drew ∧ XFr n w .ret (pre ++ [x]) (tell w.heap.size W x.1.s x.1.e m 0).drew) :=
        ⟨((tell_keeps _ _ _ _ _ _).trans (KeepsOthers.drew _)).from _, ⟨rfl, pre, x, m, m, ⟨rfl, HSK.out, hlt⟩, HF5.out.tell _ _ _ _⟩, HB.out.trans ((tell_below (Nat.le_refl _) _ _ _ _).drew)⟩
      clear HF5 HSK HB HF HFB HS CC hR
      gi_wp2
      gi_region_with_o (fail)
      all_goals (
        gi_wp2
        exact HL.out)
    · have hx8 := chkL_len x.2.2.2.2
      have HI : Hid (∀ rest, seek ((pre ++ [x]).map Subtype.val ++ rest) n = seek rest (m - x.1.b.l.length)) := fun rest => by
        rw [List.map_append]
        exact seek_on HSK.out hlt rest
      have hwr : IntKind.i64.wrap (m - x.1.b.l.length) = m - x.1.b.l.length := IntWalk.i64_in _ (by omega)
      have hm1 : 0 ≤ m - x.1.b.l.length := by omega
      have hm2 : m - x.1.b.l.length ≤ n := by omega
      have HL : Hid (KeepsFrom (w1.alloc (.cells #[.slice qa ss.length qc] 67)).heap.size W (W.setCell ⟨w.heap.size, 0, none⟩ (.int .i64 (m - x.1.b.l.length))) ∧ KpE w w1.heap.size W (W.setCell ⟨w.heap.size, 0, none⟩ (.int .i64 (m - x.1.b.l.length))) ∧ IFr w1.heap.size (.slice qa ss.length qc) n w (pre ++ [x]) (W.setCell ⟨w.heap.size, 0, none⟩ (.int .i64 (m - x.1.b.l.length)))) := by
        have hcx : (W.setCell ⟨w.heap.size, 0, none⟩ (.int .i64 (m - x.1.b.l.length))).cell? ⟨w1.heap.size, 0, none⟩ = some (.slice qa ss.length qc) := by rw [World.cell?_setCell_far _ _ _ _ (by simp; omega)]; exact hbW
        exact ⟨(KeepsOthers.setCell _ _ _).from _, ⟨(Below.refl w.heap.size W).setCell (p := ⟨w.heap.size, 0, none⟩) (Nat.le_refl _) _, hcx.trans hbW.symm⟩, ⟨⟨⟨_, ⟨hm1, hm2, HI.out⟩, HF5.out.left _⟩, hcx⟩, grow_set HB.out (Nat.le_refl _) _⟩⟩
      have hsz0 : (w1.alloc (.cells #[.slice qa ss.length qc] 67)).heap.size = w1.heap.size + 1 := by simp
      rw [hsz0] at HL
      clear HF5 HSK HB HI HF HFB HS CC hR hm1 hm2
      gi_wp2
      exact HL.out
  case done =>
    rintro D ys W hD hys ⟨⟨⟨m, ⟨hm0, hmn, hsk⟩, hF5⟩, hbW⟩, hB⟩ hK
    have HN : Hid (seek (evs ss) n = none) := by
      show _ = _
      have h := hsk []
      rw [List.append_nil, hys] at h
      exact h
    have hF6 := hF5.tell 0 0 0 5
    have hK' := (tell_keeps w.heap.size W 0 0 0 5).same D _ hK rfl
    have HFF := hF6.own (grownBy_putObj' _ D (.deferred none)) (fun r e => by cases e; exact ⟨_, hK', rfl⟩)
    obtain ⟨k0, g0, k1, g1, k2, g2, k3, g3, k4, g4⟩ := hF5
    clear hsk hys hF6
    gi_wp2
    refine ⟨by simp, .inl ⟨_, _, rfl, run_takeDeferred hK', ?_⟩⟩
    obtain ⟨_, _, c1, _, c2, _, c3, _, c4, _⟩ := HFF
    refine ⟨.tuple #[.int .i64 0, .int .i64 0, .int .i64 0, .int .i64 5], ?_, by rw [HN.out]; rfl, (hB.trans (tell_below (Nat.le_refl _) _ _ _ _)).trans (belowK_b (w := w) (Nat.le_refl _) _ D _ _ (by have := hB0.size; omega) hK' rfl rfl)⟩
    simp [results, Try.results33, go_sem, c1, c2, c3, c4]
  case stop =>
    rintro D c pre W hD hpre ⟨⟨rfl, p, y, m, a, ⟨rfl, hsk, hlt⟩, hF5⟩, hB⟩ hK
    have HN : Hid (seek (evs ss) n = some (y.1.s, y.1.e, m)) := seek_hit hsk hlt (by rw [List.map_append] at hpre; exact hpre)
    have HFF := hF5.own (grownBy_putObj' _ D (.deferred none)) (fun r e => by cases e; exact ⟨_, hK, rfl⟩)
    clear hsk hpre hlt
    gi_wp2
    refine ⟨by simp, .inl ⟨_, _, rfl, run_takeDeferred hK, ?_⟩⟩
    obtain ⟨_, _, c1, _, c2, _, c3, _, c4, _⟩ := HFF
    refine ⟨.tuple #[.int .i64 y.1.s, .int .i64 y.1.e, .int .i64 m, .int .i64 0], ?_, by rw [HN.out]; rfl, hB.trans (belowK_b (w := w) (Nat.le_refl _) W D _ _ (by have := hB0.size; omega) hK rfl rfl)⟩
    simp [results, Try.results33, go_sem, c1, c2, c3, c4]
end Go.Proofs.Ytfogphljilgogaa
