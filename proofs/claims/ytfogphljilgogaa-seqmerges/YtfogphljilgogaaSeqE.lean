/-
  seq.tooMany and seq.check: the errors of batches of sites.
  Conditions: the batches can be read.
-/
import Derived.Test.YtfogphljilgogaaSeqD
import Derived.RangeFuncNested
import Derived.RangeFuncBound
import Derived.RangeFuncCalls
import Derived.RangeFuncLeaves
import Derived.RangeFuncFrom
import Derived.Shelf.Abstract
import Derived.Shelf.RegionOpen
import Derived.WalkKit
import Derived.OwnWalkIn
import Derived.TacticsInMore
import Derived.LoopNIn
import Derived.LoopIn
import Derived.ProofKit
namespace Go.Proofs.Ytfogphljilgogaa
open Go.RowKit Go.Shelf
attribute [local go_sem] Oper.semAt_some

theorem box_new (W : World) (v : Value) (t : TypeId) : (W.alloc (.cells #[v] t)).cell? ⟨W.heap.size, 0, none⟩ = some v ∧ (W.alloc (.cells #[v] t)).frozen? ⟨W.heap.size, 0, none⟩ = false := ⟨by simp, by simp⟩
theorem box_cell {W : World} {a : Addr} {v : Value} (o : Obj) (h : W.cell? a = some v) : (W.alloc o).cell? a = some v := ext_cell (grow_alloc (Below.refl _ _) o) h
theorem box_frozen {W : World} {a : Addr} {v : Value} (o : Obj) (h : W.cell? a = some v) (hf : W.frozen? a = false) : (W.alloc o).frozen? a = false := ((grow_alloc (Below.refl W.heap.size W) o).frozen (World.block_lt_of_cell? W a h)).trans hf

variable (qa : Option Addr) (qc : Nat) (ss : List StA)

set_option maxRecDepth 100000 in
theorem bySite_any (k : Nat) (w : World) : Calls Try.prog 87 #[.slice qa k qc] w fun e w' => e = .returned (.func (.func 101) #[] #[.pointer (some ⟨w.heap.size, 0, none⟩)]) ∧ w' = w.alloc (.cells #[.slice qa k qc] 67) := by
  have hmf : ∀ (fn : Fn) (first cap : Array Value) (w : World), (Instr.makeFunc fn first cap).run Try.prog w = .ok (.func fn first cap) w := fun _ _ _ _ => rfl
  go_enter Try.func87, Try.ntmps87
  go_wp2
  go_ret
  exact ⟨rfl, rfl⟩

theorem bySite_stops (n : Nat) (hn : 1 ≤ n) (w0 W : World) (hS : IsSt w0 qa ss) (hsl : ss.length ≤ maxLen) (hW : Below w0.heap.size w0 W) (Bs : Nat) (hBs : W.cell? ⟨Bs, 0, none⟩ = some (.slice qa ss.length qc)) :
    SeqStopsK Fence.wide n Try.prog 101 #[.pointer (some ⟨Bs, 0, none⟩)] (fun x : Bt w0 => #[.slice x.1.a x.1.l.length x.1.c]) (Below w0.heap.size) (fun ys => ys.map Subtype.val = allB ss) (fun pre => pre.map Subtype.val <+: allB ss) (allB ss).length W :=
  fun l J Jx W1 hW1 _ _ hY h0 => bySite1_in qa qc ss Fence.wide n trivial rfl hn l Bs w0 hS hsl J Jx hY W1 (hW.trans (hW1.mono hW.size)) (ext_cell hW1 hBs) h0

/-- How many transactions there are, as the program counts them. -/
def wsum (bs : List BtA) : Int := bs.foldl (fun t b => wrap64 (t + b.l.length)) 0
theorem wsum_snoc (bs : List BtA) (b : BtA) : wsum (bs ++ [b]) = wrap64 (wsum bs + b.l.length) := by simp [wsum]
def tooManyV (ss : List StA) : Bool := decide (3 < ss.length) || ss.any (fun s => decide (6 < s.bs.length)) || decide (8 < wsum (allB ss))

set_option maxRecDepth 100000 in
set_option maxHeartbeats 2000000 in
theorem tooMany_any (w : World) (hS : IsSt w qa ss) (hsl : ss.length ≤ maxLen) :
    Calls Try.prog 86 #[.slice qa ss.length qc] w fun e w' => e = .returned (.bool (tooManyV ss)) ∧ Below w.heap.size w w' := by
  have hsl' := hsl
  unfold maxLen at hsl'
  by_cases h3 : 3 < ss.length
  · have H : Hid (tooManyV ss = true) := by show _ = _; simp [tooManyV, h3]
    clear hS
    have h3' : (3 : Int) < (ss.length : Int) := by omega
    go_enter Try.func86, Try.ntmps86
    go_wp2
    go_ret
    exact ⟨by rw [H.out]; rfl, Below.refl _ _⟩
  · have HS : Hid (IsSt w qa ss) := hS
    have HV : Hid (tooManyV ss = (ss.any (fun s => decide (6 < s.bs.length)) || decide (8 < wsum (allB ss)))) := by show _ = _; simp [tooManyV, h3]
    clear hS
    have h3' : ¬ (3 : Int) < (ss.length : Int) := by omega
    refine (callsIn_wide (n := 6)).1 ?_
    refine callsIn_of_wp_marks Try.func86 rfl trivial ?_ rfl
    simp only [Try.ntmps86, List.size_toArray, List.length_cons, List.length_nil, Nat.reduceAdd, Nat.reduceSub, Array.replicate_succ, Array.replicate_zero, List.push_toArray, List.append_toArray, List.nil_append, List.cons_append]
    gi_wp2
    gi_loopw [12] (fun i wr => ∃ k : Nat, k ≤ ss.length ∧ i = .int .i64 k ∧ Hid ((ss.take k).any (fun s => decide (6 < s.bs.length)) = false) ∧ wr = w) (fun i _ => ss.length - (intOf i).toNat)
    case atStart => exact ⟨0, Nat.zero_le _, rfl, by show _ = _; simp, rfl⟩
    case round =>
      obtain ⟨k, hk, rfl, hno, rfl⟩ := hrel
      by_cases hlt : k < ss.length
      · obtain ⟨b, off, rfl, _, c0, _, hbl⟩ := HS.out k hlt
        have HT : Hid ((ss.take (k + 1)).any (fun s => decide (6 < s.bs.length)) = ((ss.take k).any (fun s => decide (6 < s.bs.length)) || decide (6 < (ss.getD k st0).bs.length))) := by
          show _ = _
          rw [List.take_succ_eq_append_getElem hlt, List.any_append]
          simp [List.getD, hlt]
        have HA : Hid (6 < (ss.getD k st0).bs.length → tooManyV ss = true) := fun h => by
          rw [HV.out, Bool.or_eq_true]
          exact .inl (List.any_eq_true.2 ⟨_, (by simp [List.getD, hlt] : ss.getD k st0 ∈ ss), by simpa using h⟩)
        generalize (ss.getD k st0).bs.length = len at *
        by_cases h6 : 6 < len
        · have HV2 : Hid (tooManyV ss = true) := HA.out h6
          have h6' : (6 : Int) < (len : Int) := by omega
          clear HA HT
          gi_wp2
          exact ⟨_, results_tmp rfl _ _ _, by rw [HV2.out]; rfl, Below.refl _ _⟩
        · have h6' : ¬ (6 : Int) < (len : Int) := by omega
          have HT2 : Hid ((ss.take (k + 1)).any (fun s => decide (6 < s.bs.length)) = false) := by show _ = _; rw [HT.out, hno.out]; simpa using h6
          clear HA HT
          gi_wp2
          go_roundw
          case rel => exact ⟨k + 1, by omega, by go_num, HT2, trivial⟩
          case measure => simp [intOf]; omega
      · have hkk : k = ss.length := by omega
        have HV2 : Hid (tooManyV ss = decide (8 < wsum (allB ss))) := by
          show _ = _
          have h := hno.out
          rw [hkk, List.take_of_length_le (Nat.le_refl _)] at h
          rw [HV.out, h, Bool.false_or]
        clear hno HV hkk
        gi_wp2_with (refine ⟨trivial, ?_⟩; gi_at_call 87; refine (callsIn_wide.2 (bySite_any qa qc ss.length _)).mono ?_; rintro e w' ⟨rfl, rfl⟩)
        have hs := box_new wr (.int .i64 0) 3
        have hb := box_new (wr.alloc (.cells #[.int .i64 0] 3)) (.slice qa ss.length qc) 67
        rw [World.size_alloc] at hb
        have hB0 : Below wr.heap.size wr ((wr.alloc (.cells #[.int .i64 0] 3)).alloc (.cells #[.slice qa ss.length qc] 67)) := ((Below.refl _ wr).alloc (Nat.le_refl _) _).alloc (by simp) _
        refine wpIn_rangeFunc_ownF rfl (by omega) (gf := 101) (lb := #[.pointer (some ⟨wr.heap.size + 1, 0, none⟩)]) rfl trivial (enters_of Try.func101 (by kernel_rfl) rfl)
          (bySite_stops qa qc ss 5 (by omega) wr _ HS.out hsl hB0 (wr.heap.size + 1) hb.1) belowK_t (belowK_b (by simp; omega)) (Below.refl _ _) (fun _ => rfl)
          (fun pre W => (W.cell? ⟨wr.heap.size, 0, none⟩ = some (.int .i64 (wsum (pre.map Subtype.val))) ∧ W.frozen? ⟨wr.heap.size, 0, none⟩ = false) ∧ Below wr.heap.size wr W)
          (fun _ _ _ => False)
          (OwnFrom.and (Own.from (fun s A B row hs hg hr => ⟨cell_kept hs.1 hg hr, (frozen_kept hs.1 hg hr).trans hs.2⟩) _) (ownFrom_below (Nat.le_refl _) (by simp; omega)))
          (fun _ _ _ _ _ hs _ _ => hs)
          ⟨⟨box_cell _ hs.1, box_frozen _ hs.1 hs.2⟩, hB0⟩
          (fun x => { tmps := #[.slice qa ss.length qc, undef, u2, undef, u4, .pointer (some ⟨wr.heap.size, 0, none⟩), .slice x.1.a x.1.l.length x.1.c, .slice qa ss.length qc, .int .i64 ss.length, .bool false, .slice qa ss.length qc, .int .i64 ss.length, .int .i64 k, .bool false, u14, u15, u16, u17, u18, u19, .slice qa ss.length qc, .func (.func 101) #[] #[.pointer (some ⟨wr.heap.size + 1, 0, none⟩)], .slice x.1.a x.1.l.length x.1.c, undef, undef, undef, undef, undef, undef], defers := [] }) ?assign ?body ?done ?stop
        case assign =>
          intro l x W K hK
          gi_wp2
          exact hK
        case body =>
          rintro l pre x W ⟨⟨hc, hf⟩, hB⟩ _
          have HSN : Hid (wsum ((pre ++ [x]).map Subtype.val) = wrap64 (wsum (pre.map Subtype.val) + x.1.l.length)) := by show _ = _; rw [List.map_append]; exact wsum_snoc _ _
          generalize wsum (pre.map Subtype.val) = t at *
          gi_wp2
          exact ⟨KeepsOthers.setCell _ _ _, (Below.refl wr.heap.size W).setCell (p := ⟨wr.heap.size, 0, none⟩) (Nat.le_refl _) _, ⟨by rw [HSN.out]; exact World.cell?_setCell_same' _ _ _ (by rw [hc]; rfl), by rw [World.frozen?_setCell]; exact hf⟩, hB.setCell (p := ⟨wr.heap.size, 0, none⟩) (Nat.le_refl _) _⟩
        case done =>
          rintro D ys W hD hys ⟨⟨hc, _⟩, hB⟩ hK
          rw [hys] at hc
          gi_wp2
          refine ⟨by simp, .inl ⟨_, _, rfl, run_takeDeferred hK, ?_⟩⟩
          exact ⟨_, results_tmp rfl _ _ _, by rw [HV2.out]; rfl, hB.trans (belowK_b (w := wr) (Nat.le_refl _) W D _ _ (by simp at hD; omega) hK rfl rfl)⟩
        case stop =>
          rintro D c pre W _ _ h _
          exact h.elim

theorem keeps_below {W W' : World} (h : Below W.heap.size W W') : KeepsOthers W W' := KeepsOthers.of_grownBy (grownBy_of_below h none) (fun j o e => by cases e)
/-- The error of batches of sites. -/
def chkS (ss : List StA) : Int := if tooManyV ss then 2 else firstNZ ((allB ss).map (fun b => chkL b.l))
theorem firstNZ_app : ∀ (xs ys : List Int), (∀ x ∈ xs, x = 0) → firstNZ (xs ++ ys) = firstNZ ys
  | [], _, _ => rfl
  | x :: xs, ys, h => by
    rw [List.cons_append, firstNZ, if_pos (h x (List.mem_cons_self))]
    exact firstNZ_app xs ys (fun y hy => h y (List.mem_cons_of_mem _ hy))
theorem firstNZ_hit (xs ys : List Int) (y : Int) (h : ∀ x ∈ xs, x = 0) (hy : ¬ y = 0) : firstNZ (xs ++ y :: ys) = y := by
  rw [firstNZ_app xs _ h, firstNZ, if_neg hy]

set_option maxRecDepth 100000 in
set_option maxHeartbeats 2000000 in
theorem seqCheck_any (w : World) (hS : IsSt w qa ss) (hsl : ss.length ≤ maxLen) :
    Calls Try.prog 61 #[.slice qa ss.length qc] w fun e w' => e = .returned (.int .i64 (chkS ss)) ∧ Below w.heap.size w w' := by
  have HS : Hid (IsSt w qa ss) := hS
  have CT : Hid (∀ w', IsSt w' qa ss → Calls Try.prog 86 #[.slice qa ss.length qc] w' fun e w'' => e = .returned (.bool (tooManyV ss)) ∧ Below w'.heap.size w' w'') := fun w' h => tooMany_any qa qc ss w' h hsl
  have HE : Hid (chkS ss = if tooManyV ss then 2 else firstNZ ((allB ss).map (fun b => chkL b.l))) := rfl
  generalize chkS ss = E at *
  clear hS
  have q0 : (w.alloc (.cells #[.int .i64 0] 29)).cell? ⟨w.heap.size, 0, none⟩ = some (.int .i64 0) := by simp
  have qf : (w.alloc (.cells #[.int .i64 0] 29)).frozen? ⟨w.heap.size, 0, none⟩ = false := by simp
  have hU : Below w.heap.size w (w.alloc (.cells #[.int .i64 0] 29)) := grow_alloc (Below.refl _ _) _
  have hqs : w.heap.size < (w.alloc (.cells #[.int .i64 0] 29)).heap.size := by simp
  refine (callsIn_wide (n := 8)).1 ?_
  refine callsIn_of_wp_marks Try.func61 rfl trivial ?_ rfl
  simp only [Try.ntmps61, List.size_toArray, List.length_cons, List.length_nil, Nat.reduceAdd, Nat.reduceSub, Array.replicate_succ, Array.replicate_zero, List.push_toArray, List.append_toArray, List.nil_append, List.cons_append]
  have HPF : Hid (∀ pre : List (Bt w), pre.map Subtype.val = allB ss → (∀ y ∈ pre, chkL y.1.l = 0) → firstNZ ((allB ss).map (fun b => chkL b.l)) = 0) := fun pre h1 h2 => by
    rw [← h1, List.map_map]
    have h := firstNZ_app (pre.map ((fun b => chkL b.l) ∘ Subtype.val)) [] (fun x hx => by obtain ⟨y, hy, rfl⟩ := List.mem_map.1 hx; exact h2 y hy)
    rw [List.append_nil] at h
    exact h
  have HPS : Hid (∀ (p : List (Bt w)) (y : Bt w), (p ++ [y]).map Subtype.val <+: allB ss → (∀ z ∈ p, chkL z.1.l = 0) → ¬ chkL y.1.l = 0 → firstNZ ((allB ss).map (fun b => chkL b.l)) = chkL y.1.l) := fun p y h1 h2 h3 => by
    obtain ⟨t, ht⟩ := h1
    rw [← ht, List.map_append, List.map_map, List.map_append, List.map_cons, List.map_nil, List.append_assoc, List.cons_append, List.nil_append]
    exact firstNZ_hit _ _ _ (fun x hx => by obtain ⟨z, hz, rfl⟩ := List.mem_map.1 hx; exact h2 z hz) h3
  generalize tooManyV ss = T at *
  cases T with
  | true =>
    have HE2 : Hid (E = 2) := HE.out
    clear HPF HPS
    gi_wp2_with (refine ⟨trivial, ?_⟩; gi_at_call 86; refine (callsIn_wide.2 (CT.out _ (HS.out.below hU))).mono ?_; rintro e w1 ⟨rfl, hb1⟩; have q0 := ext_cell hb1 q0; have qf := (hb1.frozen (p := ⟨w.heap.size, 0, none⟩) hqs).trans qf)
    refine ⟨.int .i64 2, ?_, by rw [HE2.out], grow_set (grow_trans hU hb1) (Nat.le_refl _) _⟩
    simp [results, Try.results61, go_sem, q0]
  | false =>
    have HE2 : Hid (E = firstNZ ((allB ss).map (fun b => chkL b.l))) := HE.out
    gi_wp2_with (first | (refine ⟨trivial, ?_⟩; gi_at_call 86; refine (callsIn_wide.2 (CT.out _ (HS.out.below hU))).mono ?_; rintro e w1 ⟨rfl, hb1⟩; have q0 := ext_cell hb1 q0; have qf := (hb1.frozen (p := ⟨w.heap.size, 0, none⟩) hqs).trans qf) | (refine ⟨trivial, ?_⟩; gi_at_call 87; refine (callsIn_wide.2 (bySite_any qa qc ss.length _)).mono ?_; rintro e w2 ⟨rfl, rfl⟩))
    have hb := box_new w1 (.slice qa ss.length qc) 67
    have hB0 : Below w.heap.size w (w1.alloc (.cells #[.slice qa ss.length qc] 67)) := grow_alloc (grow_trans hU hb1) _
    have hsz : w.heap.size < w1.heap.size := Nat.lt_of_lt_of_le hqs hb1.size
    refine wpIn_rangeFunc_ownF rfl (by omega) (gf := 101) (lb := #[.pointer (some ⟨w1.heap.size, 0, none⟩)]) rfl trivial (enters_of Try.func101 (by kernel_rfl) rfl)
      (bySite_stops qa qc ss 7 (by omega) w _ HS.out hsl hB0 w1.heap.size hb.1) belowK_t (belowK_b hB0.size) (Below.refl _ _) (fun _ => rfl)
      (fun pre W => ((∀ y ∈ pre, chkL y.1.l = 0) ∧ W.cell? ⟨w.heap.size, 0, none⟩ = some (.int .i64 0) ∧ W.frozen? ⟨w.heap.size, 0, none⟩ = false) ∧ Below w.heap.size w W)
      (fun c pre W => (c = .ret ∧ ∃ p y, pre = p ++ [y] ∧ (∀ z ∈ p, chkL z.1.l = 0) ∧ ¬ chkL y.1.l = 0 ∧ W.cell? ⟨w.heap.size, 0, none⟩ = some (.int .i64 (chkL y.1.l))) ∧ Below w.heap.size w W)
      (OwnFrom.and (Own.from (fun s A B row hs hg hr => ⟨hs.1, cell_kept hs.2.1 hg hr, (frozen_kept hs.2.1 hg hr).trans hs.2.2⟩) _) (ownFrom_below (Nat.le_refl _) hB0.size))
      (fun c => OwnFrom.and (Own.from (fun s A B row hs hg hr => by obtain ⟨h1, p, y, h2, h3, h4, h5⟩ := hs; exact ⟨h1, p, y, h2, h3, h4, cell_kept h5 hg hr⟩) _) (ownFrom_below (Nat.le_refl _) hB0.size))
      ⟨⟨by simp, box_cell _ q0, box_frozen _ q0 qf⟩, hB0⟩
      (fun x => { tmps := #[.slice qa ss.length qc, undef, .pointer (some ⟨w.heap.size, 0, none⟩), .slice x.1.a x.1.l.length x.1.c, undef, .slice qa ss.length qc, .bool false, .slice qa ss.length qc, .func (.func 101) #[] #[.pointer (some ⟨w1.heap.size, 0, none⟩)], .slice x.1.a x.1.l.length x.1.c, undef, undef, undef, undef, undef], defers := [] }) ?assign ?body ?done ?stop
    case assign =>
      intro l x W K hK
      gi_wp2
      exact hK
    case body =>
      rintro l pre ⟨⟨xa, xc, xl⟩, htx, hxl, hxc⟩ W ⟨⟨hp, hc, hf⟩, hB⟩ _
      have HP : Hid (∀ y ∈ pre, chkL y.1.l = 0) := hp
      have HB : Hid (Below w.heap.size w W) := hB
      have CO : Hid (Calls Try.prog 45 #[.slice xa xl.length xc] W fun e w' => e = .returned (.int .i64 (chkL xl)) ∧ Below W.heap.size W w') := orderCheck_any xa xc xl W (htx.below hB)
      simp only
      by_cases h0 : chkL xl = 0
      · rw [h0] at CO
        clear hp hB q0 qf
        gi_wp2_with (refine ⟨trivial, ?_⟩; gi_at_call 45; refine (CallsIn.inRound l (callsIn_wide.2 CO.out)).mono ?_; rintro e w5 ⟨rfl, hb5⟩)
        exact ⟨keeps_below hb5, hb5.mono HB.out.size, ⟨fun y hy => (List.mem_append.1 hy).elim (HP.out y) (fun e => by simp at e; subst e; exact h0), ext_cell hb5 hc, (hb5.frozen (p := ⟨w.heap.size, 0, none⟩) (World.block_lt_of_cell? W _ hc)).trans hf⟩, grow_trans HB.out hb5⟩
      · have hne : (chkL xl != 0) = true := by simpa using h0
        have HN : Hid (¬ chkL xl = 0) := h0
        have hbl := World.block_lt_of_cell? W _ hc
        clear hp hB q0 qf h0
        gi_wp2_with (refine ⟨trivial, ?_⟩; gi_at_call 45; refine (CallsIn.inRound l (callsIn_wide.2 CO.out)).mono ?_; rintro e w5 ⟨rfl, hb5⟩; have hc5 := ext_cell hb5 hc; have hf5 := (hb5.frozen (p := ⟨w.heap.size, 0, none⟩) hbl).trans hf)
        exact ⟨(keeps_below hb5).trans (KeepsOthers.setCell _ _ _), ⟨rfl, pre, _, rfl, HP.out, HN.out, World.cell?_setCell_same' _ _ _ (by rw [hc5]; rfl)⟩, grow_set (grow_trans HB.out hb5) (Nat.le_refl _) _⟩
    case done =>
      rintro D ys W hD hys ⟨⟨hz, hc, hf⟩, hB⟩ hK
      have HZ : Hid (E = 0) := by show _ = _; rw [HE2.out]; exact HPF.out ys hys hz
      clear hys hz
      gi_wp2
      have hK' := (KeepsOthers.setCell W ⟨w.heap.size, 0, none⟩ (.int .i64 0)).same D _ hK rfl
      refine ⟨by simp, .inl ⟨_, _, rfl, run_takeDeferred hK', ?_⟩⟩
      have hc5 := cell_kept (World.cell?_setCell_same' W ⟨w.heap.size, 0, none⟩ (.int .i64 0) (by rw [hc]; rfl)) (grownBy_putObj' _ D (.deferred none)) (fun r e => by cases e; exact ⟨_, hK', rfl⟩)
      refine ⟨.int .i64 0, ?_, by rw [HZ.out], (grow_set hB (Nat.le_refl _) _).trans (belowK_b (w := w) (Nat.le_refl _) _ D _ _ (by have := hB0.size; omega) hK' rfl rfl)⟩
      simp [results, Try.results61, go_sem, hc5]
    case stop =>
      rintro D c pre W hD hpre ⟨⟨rfl, p, y, rfl, h2, h3, hc⟩, hB⟩ hK
      have HZ : Hid (E = chkL y.1.l) := by show _ = _; rw [HE2.out]; exact HPS.out p y hpre h2 h3
      gi_wp2
      refine ⟨by simp, .inl ⟨_, _, rfl, run_takeDeferred hK, ?_⟩⟩
      have hc5 := cell_kept hc (grownBy_putObj' _ D (.deferred none)) (fun r e => by cases e; exact ⟨_, hK, rfl⟩)
      refine ⟨.int .i64 (chkL y.1.l), ?_, by rw [HZ.out], hB.trans (belowK_b (w := w) (Nat.le_refl _) W D _ _ (by have := hB0.size; omega) hK rfl rfl)⟩
      simp [results, Try.results61, go_sem, hc5]
end Go.Proofs.Ytfogphljilgogaa
