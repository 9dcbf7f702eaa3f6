/-
  Wire: reading lists of whole numbers. Wire: reading lists of guards and sets. Wire: reading a transaction. Wire: reading transactions, a plan.
  Conditions: those that each theorem states.
-/
import Derived.Test.YtcgpkonfneofdaaWirMC
import Derived.WalkKit
import Derived.WalkSpells
import Derived.WalkLawsBesides
import Derived.Defers
import Derived.Recover
import Derived.ProofKit
import Derived.Deep.RegionHeld
import Derived.Deep.RegionHeld3
import Derived.Deep.RegionLaw
import Derived.Deep.DeepCutAuto
import Derived.Deep.QuietTactic
import Derived.BigQuiet
import Derived.Maps.AppendAt
import Derived.Lib.SliceRun
import Derived.Deep.AppendLies
namespace Go.Proofs.Ytcgpkonfneofdaa
open Go.RowKit

theorem rdN_mem {bs : List Int} {b : Int} {r : List Int} (h : rdN bs = some (b, r)) : b ∈ bs := by
  cases bs with
  | nil => cases h
  | cons c t => injection h with h; injection h with h1 h2; rw [h1]; simp
theorem row_kept {w w' : World} {base E size n P : Nat} {v : Value} {xs : List Value} (h : w.ownsRow base E size v n xs) (hg : w.grownBy w' (some P)) (hP : P < base) : w'.ownsRow base E size v n xs := by
  refine h.kept hg ?_
  cases ho : v.ownBlock with
  | none => exact .inl rfl
  | some j => exact .inr (fun e => by have := (h.lt j ho).1; injection e with e; omega)
theorem news_lit (w : World) (cs : List Value) (E : TypeId) (n : Nat) (hn : n = w.heap.size) : ∀ j u, cs[j]? = some u → (w.alloc (.cells cs.toArray E)).cell? ((⟨n, 0, none⟩ : Addr).add j) = some u := by
  subst hn
  intro j u hj
  rw [add_none, Nat.zero_add]
  simp [hj]
theorem flatS_app : ∀ (gs hs : List St), flatS (gs ++ hs) = flatS gs ++ flatS hs
  | [], _ => rfl
  | g :: gs, hs => by simp [flatS, flatS_app gs hs]
theorem flat_snoc (l : List Gd) (g : Gd) : flat (l ++ [g]) = flat l ++ gcells g := by rw [flat_app]; simp [flat]
theorem flatS_snoc (l : List St) (g : St) : flatS (l ++ [g]) = flatS l ++ scells g := by rw [flatS_app]; simp [flatS]
theorem map_snoc (l : List Int) (x : Int) : (l ++ [x]).map (Value.int .i64) = l.map (Value.int .i64) ++ [Value.int .i64 x] := by simp
theorem gcells_one (g : Gd) : ∀ u ∈ gcells g, u.oneCell' = true := fun u hu => flat_one [g] u (by simpa [flat] using hu)
theorem scells_one (g : St) : ∀ u ∈ scells g, u.oneCell' = true := fun u hu => flatS_one [g] u (by simpa [flatS] using hu)
set_option maxRecDepth 100000 in
set_option maxHeartbeats 1500000 in
/-- A list of whole numbers. -/
theorem rdInts_any (P : Nat) (bs : List Int) (w : World) (h : RdS P w bs) :
    Calls Try.prog 116 #[.pointer (some ⟨P, 0, none⟩), .func (.func 91) #[.pointer (some ⟨P, 0, none⟩)] #[]] w fun e w' => RdR P w (rdL rdN bs) (fun l v w' => w'.ownsRow w.heap.size 3 1 v l.length (l.map (Value.int .i64))) e w' := by
  obtain ⟨i0, hi, hz0, hz1, hz2⟩ := info_parts Try.info3
  have hP := h.lt
  have HB : Hid (Byt bs) := h.byt
  have H0 : Hid (RdS P w bs) := h
  clear h
  go_enter Try.func116, Try.ntmps116
  go_wp2_with fail
  refine (rdNum_any P bs _ H0.out).mono ?_
  rintro e w1 ⟨g, hm⟩
  cases hc : rdN bs with
  | none =>
    rw [hc] at hm
    have HG : Hid (rdL rdN bs = none) := by
      show rdL rdN bs = none
      simp [rdL, hc]
    subst hm
    unfold PanF
    go_wp2
    refine ⟨rfl, g, ?_⟩
    rw [HG.out]; rfl
  | some p =>
    obtain ⟨b, r0⟩ := p
    rw [hc] at hm
    obtain ⟨v, rfl, rfl, h1⟩ := hm
    obtain ⟨hb0, hb1⟩ := HB.out b (rdN_mem hc)
    obtain ⟨n, rfl⟩ : ∃ n : Nat, b = n := ⟨b.toNat, by omega⟩
    have HL : Hid (rdL rdN bs = rdK rdN n r0) := by
      show rdL rdN bs = _
      simp [rdL, hc]
    have H1 : Hid (RdS P w1 r0) := h1
    have G1 : Hid (w.grownBy w1 (some P)) := g
    clear h1 g hc hb0
    go_wp2
    go_loopw [5, 8] (fun v i wr => ∃ (k : Nat) (l : List Int) (r : List Int), k ≤ n ∧ i = .int .i64 k ∧ l.length = k ∧ Hid (rdK rdN n r0 = (rdK rdN (n - k) r).map fun q => (l ++ q.1, q.2)) ∧ Hid (wr.ownsRow w.heap.size 3 1 v l.length (l.map (Value.int .i64))) ∧ Hid (RdS P wr r) ∧ Hid (w.grownBy wr (some P))) (fun _ i _ => n - (intOf i).toNat)
    case atStart => exact ⟨0, [], r0, Nat.zero_le _, rfl, rfl, by show _ = _; simp, World.ownsRow_nil _ _ _ _, H1, G1⟩
    case round =>
      obtain ⟨k, l, r, hk, rfl, hl, hK, hrow, hR, hG⟩ := hrel
      by_cases hlt : k < n
      · have hlow : Hid (∀ j, u5.ownBlock = some j → w.heap.size ≤ j) := fun j hj => (hrow.out.lt j hj).1
        go_wp2_with fail
        refine (rdNum_any P r _ hR.out).mono ?_
        rintro e w3 ⟨g, hm⟩
        cases hc : rdN r with
        | none =>
          rw [hc] at hm
          have HG : Hid (rdL rdN bs = none) := by
            show rdL rdN bs = none
            rw [HL.out, hK.out]
            obtain ⟨j, hj⟩ : ∃ j, n - k = j + 1 := ⟨n - k - 1, by omega⟩
            rw [hj]
            simp [rdK, hc]
          subst hm
          unfold PanF
          go_wp2
          refine ⟨rfl, hG.out.trans g, ?_⟩
          rw [HG.out]; rfl
        | some p =>
          obtain ⟨x, r'⟩ := p
          rw [hc] at hm
          obtain ⟨v, rfl, rfl, h3⟩ := hm
          have HK3 : Hid (rdK rdN n r0 = (rdK rdN (n - (k + 1)) r').map fun q => ((l ++ [x]) ++ q.1, q.2)) := by
            show _ = _
            rw [hK.out]
            obtain ⟨j, hj⟩ : ∃ j, n - k = j + 1 := ⟨n - k - 1, by omega⟩
            have hj2 : n - (k + 1) = j := by omega
            rw [hj, hj2]
            simp [rdK, hc, Option.map_map, Function.comp_def]
          have HO : Hid (w3.ownsRow w.heap.size 3 1 u5 l.length (l.map (Value.int .i64))) := row_kept hrow.out g hP
          have H3 : Hid (RdS P w3 r') := h3
          have G3 : Hid (w.grownBy w3 (some P)) := hG.out.trans g
          have hle : w.heap.size ≤ w3.heap.size := G3.out.size
          clear h3 g hc hK hrow hR hG
          go_wp2_with (first
            | (at_builtin; refine wpList_append_own _ rfl _ _ 22 rfl w.heap.size 3 i0 (.int .i64 0) 1 8 Try.underlying22 hi hz0 hz1 hz2 rfl (by decide) _ _ _ rfl (HO.out.alloc _) _ 1 1 [.int .i64 x] rfl rfl (news_lit w3 [.int .i64 x] 3 _ rfl) (ints_oneCell .i64 [x]) (by unfold maxLen; omega) (by omega) (by simp; omega) ?_; intro v' w5 hown' hgrow _; have HO5 : Hid _ := hown'; have HGR : Hid _ := hgrow; clear hown' hgrow)
            | go_in)
          go_roundw
          case rel =>
            have hgA : w3.grownBy w5 u5.ownBlock := (World.grownBy_alloc w3 _ _).trans HGR.out
            refine ⟨k + 1, l ++ [x], r', by omega, by go_num, by simp [hl], HK3, ?_, ?_, ?_⟩
            · show w5.ownsRow _ _ _ _ _ _
              rw [map_snoc, List.length_append]
              exact HO5.out
            · exact H3.out.kept hgA (fun e => by have := hlow.out P e.symm; omega)
            · exact gb_up G3.out hgA hlow.out
          case measure => simp [intOf]; omega
      · have hkn : k = n := by omega
        subst hkn
        have HE : Hid (rdL rdN bs = some (l, r)) := by
          show rdL rdN bs = _
          rw [HL.out, hK.out]
          simp [rdK]
        clear hK HL
        go_wp2
        go_ret
        refine ⟨hG.out, ?_⟩
        rw [HE.out]
        exact ⟨_, rfl, hrow.out, hR.out⟩
end Go.Proofs.Ytcgpkonfneofdaa

namespace Go.Proofs.Ytcgpkonfneofdaa
open Go.RowKit

set_option maxRecDepth 100000 in
set_option maxHeartbeats 1500000 in
/-- Guards. -/
theorem rdGuards_any (P : Nat) (bs : List Int) (w : World) (h : RdS P w bs) :
    Calls Try.prog 117 #[.pointer (some ⟨P, 0, none⟩), .func (.func 118) #[.pointer (some ⟨P, 0, none⟩)] #[]] w fun e w' => RdR P w (rdL rdG bs) (fun l v w' => w'.ownsRow w.heap.size 101 5 v l.length (flat l)) e w' := by
  obtain ⟨i0, hi, hz0, hz1, hz2⟩ := info_parts Try.info101
  have hP := h.lt
  have HB : Hid (Byt bs) := h.byt
  have H0 : Hid (RdS P w bs) := h
  clear h
  go_enter Try.func117, Try.ntmps117
  go_wp2_with fail
  refine (rdNum_any P bs _ H0.out).mono ?_
  rintro e w1 ⟨g, hm⟩
  cases hc : rdN bs with
  | none =>
    rw [hc] at hm
    have HG : Hid (rdL rdG bs = none) := by
      show rdL rdG bs = none
      simp [rdL, hc]
    subst hm
    unfold PanF
    go_wp2
    refine ⟨rfl, g, ?_⟩
    rw [HG.out]; rfl
  | some p =>
    obtain ⟨b, r0⟩ := p
    rw [hc] at hm
    obtain ⟨v, rfl, rfl, h1⟩ := hm
    obtain ⟨hb0, hb1⟩ := HB.out b (rdN_mem hc)
    obtain ⟨n, rfl⟩ : ∃ n : Nat, b = n := ⟨b.toNat, by omega⟩
    have HL : Hid (rdL rdG bs = rdK rdG n r0) := by
      show rdL rdG bs = _
      simp [rdL, hc]
    have H1 : Hid (RdS P w1 r0) := h1
    have G1 : Hid (w.grownBy w1 (some P)) := g
    clear h1 g hc hb0
    go_wp2
    go_loopw [5, 8] (fun v i wr => ∃ (k : Nat) (l : List Gd) (r : List Int), k ≤ n ∧ i = .int .i64 k ∧ l.length = k ∧ Hid (rdK rdG n r0 = (rdK rdG (n - k) r).map fun q => (l ++ q.1, q.2)) ∧ Hid (wr.ownsRow w.heap.size 101 5 v l.length (flat l)) ∧ Hid (RdS P wr r) ∧ Hid (w.grownBy wr (some P))) (fun _ i _ => n - (intOf i).toNat)
    case atStart => exact ⟨0, [], r0, Nat.zero_le _, rfl, rfl, by show _ = _; simp, World.ownsRow_nil _ _ _ _, H1, G1⟩
    case round =>
      obtain ⟨k, l, r, hk, rfl, hl, hK, hrow, hR, hG⟩ := hrel
      by_cases hlt : k < n
      · have hlow : Hid (∀ j, u5.ownBlock = some j → w.heap.size ≤ j) := fun j hj => (hrow.out.lt j hj).1
        go_wp2_with fail
        refine (rdGuard_any P r _ hR.out).mono ?_
        rintro e w3 ⟨g, hm⟩
        cases hc : rdG r with
        | none =>
          rw [hc] at hm
          have HG : Hid (rdL rdG bs = none) := by
            show rdL rdG bs = none
            rw [HL.out, hK.out]
            obtain ⟨j, hj⟩ : ∃ j, n - k = j + 1 := ⟨n - k - 1, by omega⟩
            rw [hj]
            simp [rdK, hc]
          subst hm
          unfold PanF
          go_wp2
          refine ⟨rfl, hG.out.trans g, ?_⟩
          rw [HG.out]; rfl
        | some p =>
          obtain ⟨x, r'⟩ := p
          rw [hc] at hm
          obtain ⟨v, rfl, rfl, h3⟩ := hm
          have HK3 : Hid (rdK rdG n r0 = (rdK rdG (n - (k + 1)) r').map fun q => ((l ++ [x]) ++ q.1, q.2)) := by
            show _ = _
            rw [hK.out]
            obtain ⟨j, hj⟩ : ∃ j, n - k = j + 1 := ⟨n - k - 1, by omega⟩
            have hj2 : n - (k + 1) = j := by omega
            rw [hj, hj2]
            simp [rdK, hc, Option.map_map, Function.comp_def]
          have HO : Hid (w3.ownsRow w.heap.size 101 5 u5 l.length (flat l)) := row_kept hrow.out g hP
          have H3 : Hid (RdS P w3 r') := h3
          have G3 : Hid (w.grownBy w3 (some P)) := hG.out.trans g
          have hle : w.heap.size ≤ w3.heap.size := G3.out.size
          clear h3 g hc hK hrow hR hG
          obtain ⟨kd, ak, an, bk, bn⟩ := x
          go_wp2_with (first
            | (at_builtin; refine wpList_append_own _ rfl _ _ 35 rfl w.heap.size 101 i0 (.agg #[.int .i64 0, .int .i64 0, .int .i64 0, .int .i64 0, .int .i64 0]) 5 40 Try.underlying35 hi hz0 hz1 hz2 rfl (by decide) _ _ _ rfl (HO.out.alloc _) _ 1 1 [.int .i64 kd, .int .i64 ak, .int .i64 an, .int .i64 bk, .int .i64 bn] rfl rfl (news_lit w3 [.int .i64 kd, .int .i64 ak, .int .i64 an, .int .i64 bk, .int .i64 bn] 101 _ rfl) (gcells_one ⟨kd, ak, an, bk, bn⟩) (by unfold maxLen; omega) (by omega) (by simp; omega) ?_; intro v' w5 hown' hgrow _; have HO5 : Hid _ := hown'; have HGR : Hid _ := hgrow; clear hown' hgrow)
            | go_in)
          go_roundw
          case rel =>
            have hgA : w3.grownBy w5 u5.ownBlock := (World.grownBy_alloc w3 _ _).trans HGR.out
            refine ⟨k + 1, l ++ [(⟨kd, ak, an, bk, bn⟩ : Gd)], r', by omega, by go_num, by simp [hl], HK3, ?_, ?_, ?_⟩
            · show w5.ownsRow _ _ _ _ _ _
              rw [flat_snoc, List.length_append]
              exact HO5.out
            · exact H3.out.kept hgA (fun e => by have := hlow.out P e.symm; omega)
            · exact gb_up G3.out hgA hlow.out
          case measure => simp [intOf]; omega
      · have hkn : k = n := by omega
        subst hkn
        have HE : Hid (rdL rdG bs = some (l, r)) := by
          show rdL rdG bs = _
          rw [HL.out, hK.out]
          simp [rdK]
        clear hK HL
        go_wp2
        go_ret
        refine ⟨hG.out, ?_⟩
        rw [HE.out]
        exact ⟨_, rfl, hrow.out, hR.out⟩
set_option maxRecDepth 100000 in
set_option maxHeartbeats 1500000 in
/-- Sets. -/
theorem rdSets_any (P : Nat) (bs : List Int) (w : World) (h : RdS P w bs) :
    Calls Try.prog 119 #[.pointer (some ⟨P, 0, none⟩), .func (.func 120) #[.pointer (some ⟨P, 0, none⟩)] #[]] w fun e w' => RdR P w (rdL rdS bs) (fun l v w' => w'.ownsRow w.heap.size 47 6 v l.length (flatS l)) e w' := by
  obtain ⟨i0, hi, hz0, hz1, hz2⟩ := info_parts Try.info47
  have hP := h.lt
  have HB : Hid (Byt bs) := h.byt
  have H0 : Hid (RdS P w bs) := h
  clear h
  go_enter Try.func119, Try.ntmps119
  go_wp2_with fail
  refine (rdNum_any P bs _ H0.out).mono ?_
  rintro e w1 ⟨g, hm⟩
  cases hc : rdN bs with
  | none =>
    rw [hc] at hm
    have HG : Hid (rdL rdS bs = none) := by
      show rdL rdS bs = none
      simp [rdL, hc]
    subst hm
    unfold PanF
    go_wp2
    refine ⟨rfl, g, ?_⟩
    rw [HG.out]; rfl
  | some p =>
    obtain ⟨b, r0⟩ := p
    rw [hc] at hm
    obtain ⟨v, rfl, rfl, h1⟩ := hm
    obtain ⟨hb0, hb1⟩ := HB.out b (rdN_mem hc)
    obtain ⟨n, rfl⟩ : ∃ n : Nat, b = n := ⟨b.toNat, by omega⟩
    have HL : Hid (rdL rdS bs = rdK rdS n r0) := by
      show rdL rdS bs = _
      simp [rdL, hc]
    have H1 : Hid (RdS P w1 r0) := h1
    have G1 : Hid (w.grownBy w1 (some P)) := g
    clear h1 g hc hb0
    go_wp2
    go_loopw [5, 8] (fun v i wr => ∃ (k : Nat) (l : List St) (r : List Int), k ≤ n ∧ i = .int .i64 k ∧ l.length = k ∧ Hid (rdK rdS n r0 = (rdK rdS (n - k) r).map fun q => (l ++ q.1, q.2)) ∧ Hid (wr.ownsRow w.heap.size 47 6 v l.length (flatS l)) ∧ Hid (RdS P wr r) ∧ Hid (w.grownBy wr (some P))) (fun _ i _ => n - (intOf i).toNat)
    case atStart => exact ⟨0, [], r0, Nat.zero_le _, rfl, rfl, by show _ = _; simp, World.ownsRow_nil _ _ _ _, H1, G1⟩
    case round =>
      obtain ⟨k, l, r, hk, rfl, hl, hK, hrow, hR, hG⟩ := hrel
      by_cases hlt : k < n
      · have hlow : Hid (∀ j, u5.ownBlock = some j → w.heap.size ≤ j) := fun j hj => (hrow.out.lt j hj).1
        go_wp2_with fail
        refine (rdSet_any P r _ hR.out).mono ?_
        rintro e w3 ⟨g, hm⟩
        cases hc : rdS r with
        | none =>
          rw [hc] at hm
          have HG : Hid (rdL rdS bs = none) := by
            show rdL rdS bs = none
            rw [HL.out, hK.out]
            obtain ⟨j, hj⟩ : ∃ j, n - k = j + 1 := ⟨n - k - 1, by omega⟩
            rw [hj]
            simp [rdK, hc]
          subst hm
          unfold PanF
          go_wp2
          refine ⟨rfl, hG.out.trans g, ?_⟩
          rw [HG.out]; rfl
        | some p =>
          obtain ⟨x, r'⟩ := p
          rw [hc] at hm
          obtain ⟨v, rfl, rfl, h3⟩ := hm
          have HK3 : Hid (rdK rdS n r0 = (rdK rdS (n - (k + 1)) r').map fun q => ((l ++ [x]) ++ q.1, q.2)) := by
            show _ = _
            rw [hK.out]
            obtain ⟨j, hj⟩ : ∃ j, n - k = j + 1 := ⟨n - k - 1, by omega⟩
            have hj2 : n - (k + 1) = j := by omega
            rw [hj, hj2]
            simp [rdK, hc, Option.map_map, Function.comp_def]
          have HO : Hid (w3.ownsRow w.heap.size 47 6 u5 l.length (flatS l)) := row_kept hrow.out g hP
          have H3 : Hid (RdS P w3 r') := h3
          have G3 : Hid (w.grownBy w3 (some P)) := hG.out.trans g
          have hle : w.heap.size ≤ w3.heap.size := G3.out.size
          clear h3 g hc hK hrow hR hG
          obtain ⟨key, op, ak, an, bk, bn⟩ := x
          go_wp2_with (first
            | (at_builtin; refine wpList_append_own _ rfl _ _ 36 rfl w.heap.size 47 i0 (.agg #[.int .i64 0, .int .i64 0, .int .i64 0, .int .i64 0, .int .i64 0, .int .i64 0]) 6 48 Try.underlying36 hi hz0 hz1 hz2 rfl (by decide) _ _ _ rfl (HO.out.alloc _) _ 1 1 [.int .i64 key, .int .i64 op, .int .i64 ak, .int .i64 an, .int .i64 bk, .int .i64 bn] rfl rfl (news_lit w3 [.int .i64 key, .int .i64 op, .int .i64 ak, .int .i64 an, .int .i64 bk, .int .i64 bn] 47 _ rfl) (scells_one ⟨key, op, ak, an, bk, bn⟩) (by unfold maxLen; omega) (by omega) (by simp; omega) ?_; intro v' w5 hown' hgrow _; have HO5 : Hid _ := hown'; have HGR : Hid _ := hgrow; clear hown' hgrow)
            | go_in)
          go_roundw
          case rel =>
            have hgA : w3.grownBy w5 u5.ownBlock := (World.grownBy_alloc w3 _ _).trans HGR.out
            refine ⟨k + 1, l ++ [(⟨key, op, ak, an, bk, bn⟩ : St)], r', by omega, by go_num, by simp [hl], HK3, ?_, ?_, ?_⟩
            · show w5.ownsRow _ _ _ _ _ _
              rw [flatS_snoc, List.length_append]
              exact HO5.out
            · exact H3.out.kept hgA (fun e => by have := hlow.out P e.symm; omega)
            · exact gb_up G3.out hgA hlow.out
          case measure => simp [intOf]; omega
      · have hkn : k = n := by omega
        subst hkn
        have HE : Hid (rdL rdS bs = some (l, r)) := by
          show rdL rdS bs = _
          rw [HL.out, hK.out]
          simp [rdK]
        clear hK HL
        go_wp2
        go_ret
        refine ⟨hG.out, ?_⟩
        rw [HE.out]
        exact ⟨_, rfl, hrow.out, hR.out⟩
end Go.Proofs.Ytcgpkonfneofdaa

namespace Go.Proofs.Ytcgpkonfneofdaa
open Go.RowKit

/-- A transaction's lists lie in these blocks. -/
def XB (lo hi : Nat) (x : TxA) : Prop := InBlocks lo hi x.ra ∧ InBlocks lo hi x.ga ∧ InBlocks lo hi x.sa
theorem gb_ints {w w' : World} {R lo hi : Nat} {a : Option Addr} {zs : List Int} (hg : w.grownBy w' (some R)) (h : IsInts w a zs) (hi : InBlocks lo hi a) (hlt : R < lo) : IsInts w' a zs := h.keptBy hg (fun ad e q => by have := (hi ad e).1; injection q with q; omega)
theorem gb_gs {w w' : World} {R lo hi : Nat} {a : Option Addr} {zs : List Gd} (hg : w.grownBy w' (some R)) (h : IsGs w a zs) (hi : InBlocks lo hi a) (hlt : R < lo) : IsGs w' a zs := h.keptBy hg (fun ad e q => by have := (hi ad e).1; injection q with q; omega)
theorem gb_ss {w w' : World} {R lo hi : Nat} {a : Option Addr} {zs : List St} (hg : w.grownBy w' (some R)) (h : IsSs w a zs) (hi : InBlocks lo hi a) (hlt : R < lo) : IsSs w' a zs := h.keptBy hg (fun ad e q => by have := (hi ad e).1; injection q with q; omega)
theorem gb_one (w : World) (R i : Nat) (v : Value) : w.grownBy (w.setCell ⟨R, i, none⟩ v) (some R) := ⟨rfl, rfl, rfl, by simp, fun b _ hb => Below.heap_setCell _ _ _ _ (fun e => hb (by rw [e]))⟩
theorem gb_x {w w' : World} {R lo hi : Nat} {x : TxA} (hg : w.grownBy w' (some R)) (h : IsX w x) (hi : XB lo hi x) (hlt : R < lo) : IsX w' x :=
  ⟨⟨gb_ints hg h.t.r hi.1 hlt, gb_gs hg h.t.g hi.2.1 hlt, gb_ss hg h.t.s hi.2.2 hlt, h.t.lr, h.t.lg, h.t.ls⟩, h.rn, h.gn, h.sn⟩
theorem XB.widen {lo hi lo' hi' : Nat} {x : TxA} (h : XB lo hi x) (h1 : lo' ≤ lo) (h2 : hi ≤ hi') : XB lo' hi' x := ⟨h.1.widen h1 h2, h.2.1.widen h1 h2, h.2.2.widen h1 h2⟩

set_option maxRecDepth 100000 in
set_option maxHeartbeats 1500000 in
/-- A transaction. -/
theorem rdTxn_any (P : Nat) (bs : List Int) (w : World) (h : RdS P w bs) :
    Calls Try.prog 93 #[.pointer (some ⟨P, 0, none⟩)] w fun e w' => RdR P w (rdT bs) (fun c v w' => ∃ x : TxA, v = .agg #[.slice x.ra x.rs.length x.rc, .slice x.ga x.gs.length x.gc, .slice x.sa x.ss.length x.sc] ∧ x.core = c ∧ IsX w' x ∧ XB w.heap.size w'.heap.size x) e w' := by
  have hmf : ∀ (fn : Fn) (first cap : Array Value) (w : World), (Instr.makeFunc fn first cap).run Try.prog w = .ok (.func fn first cap) w := fun _ _ _ _ => rfl
  have hP := h.lt
  obtain ⟨W, hWe⟩ : ∃ W, W = w.alloc (.cells #[.slice none 0 0, .slice none 0 0, .slice none 0 0] 38) := ⟨_, rfl⟩
  have HWE : Hid (W = w.alloc (.cells #[.slice none 0 0, .slice none 0 0, .slice none 0 0] 38)) := hWe
  have H0 : Hid (RdS P W bs) := by subst hWe; exact h.alloc _
  have G0 : Hid (w.grownBy W (some P)) := by subst hWe; exact World.grownBy_alloc _ _ _
  have S0 : Hid (w.heap.size < W.heap.size) := by subst hWe; show _ < _; simp
  have c0 : W.cell? ⟨w.heap.size, 0, none⟩ = some (.slice none 0 0) := by subst hWe; simp
  have c1 : W.cell? ⟨w.heap.size, 1, none⟩ = some (.slice none 0 0) := by subst hWe; simp
  have c2 : W.cell? ⟨w.heap.size, 2, none⟩ = some (.slice none 0 0) := by subst hWe; simp
  have f0 : ∀ i, W.frozen? ⟨w.heap.size, i, none⟩ = false := by subst hWe; intro i; simp
  have hR : w.heap.size ≠ P := by omega
  clear h hWe
  go_enter Try.func93, Try.ntmps93
  go_upto_region 1 with fail
  rw [← HWE.out]
  go_wp2_with fail
  refine (rdInts_any P bs _ H0.out).mono ?_
  rintro e w1 ⟨g, hm⟩
  cases hc : rdL rdN bs with
  | none =>
    rw [hc] at hm
    have HG : Hid (rdT bs = none) := by
      show rdT bs = none
      simp [rdT, hc]
    subst hm
    unfold PanF
    go_wp2
    refine ⟨rfl, G0.out.trans g, ?_⟩
    rw [HG.out]; rfl
  | some p =>
    obtain ⟨l1, r1⟩ := p
    rw [hc] at hm
    obtain ⟨v, rfl, ho, h1⟩ := hm
    have HL1 : Hid (l1.length < 256) := (rdL_only rdN_only bs l1 r1 H0.out.byt hc).2.1
    have HC1 : Hid (rdL rdN bs = some (l1, r1)) := hc
    obtain ⟨a1, k1, rfl, hi⟩ := ints_of_owns ho
    have HI1 : Hid (IsInts w1 a1 l1) := hi
    have HW1 : Hid (InBlocks W.heap.size w1.heap.size a1 ∧ (a1 = none → k1 = 0)) := owns_in ho
    have H1 : Hid (RdS P w1 r1) := h1
    have G1 : Hid (w.grownBy w1 (some P)) := G0.out.trans g
    have T1 : Hid (W.grownBy w1 (some P)) := g
    have c0 := gb_cell g hR c0
    have c1 := gb_cell g hR c1
    have c2 := gb_cell g hR c2
    have f0 := gb_frozen g hR S0.out f0
    have S1 : Hid (w.heap.size < w1.heap.size) := Nat.lt_of_lt_of_le S0.out g.size
    clear h1 g hc ho hi
    go_wp2_with fail
    refine (rdGuards_any P r1 _ H1.out).mono ?_
    rintro e w2 ⟨g, hm⟩
    cases hc : rdL rdG r1 with
    | none =>
      rw [hc] at hm
      have HG : Hid (rdT bs = none) := by
        show rdT bs = none
        simp [rdT, HC1.out, hc]
      subst hm
      unfold PanF
      go_wp2
      refine ⟨rfl, G1.out.trans g, ?_⟩
      rw [HG.out]; rfl
    | some p =>
      obtain ⟨l2, r2⟩ := p
      rw [hc] at hm
      obtain ⟨v, rfl, ho, h1⟩ := hm
      have HL2 : Hid (l2.length < 256) := (rdL_only rdG_only r1 l2 r2 H1.out.byt hc).2.1
      have HC2 : Hid (rdL rdG r1 = some (l2, r2)) := hc
      obtain ⟨a2, k2, rfl, hi⟩ := gs_of_owns ho
      have HI2 : Hid (IsGs w2 a2 l2) := hi
      have HW2 : Hid (InBlocks w1.heap.size w2.heap.size a2 ∧ (a2 = none → k2 = 0)) := owns_in ho
      have H2 : Hid (RdS P w2 r2) := h1
      have G2 : Hid (w.grownBy w2 (some P)) := G1.out.trans g
      have T2 : Hid (w1.grownBy w2 (some P)) := g
      have c0 := gb_cell g hR c0
      have c1 := gb_cell g hR c1
      have c2 := gb_cell g hR c2
      have f0 := gb_frozen g hR S1.out f0
      have S2 : Hid (w.heap.size < w2.heap.size) := Nat.lt_of_lt_of_le S1.out g.size
      clear h1 g hc ho hi
      go_wp2_with fail
      refine (rdSets_any P r2 _ H2.out).mono ?_
      rintro e w3 ⟨g, hm⟩
      cases hc : rdL rdS r2 with
      | none =>
        rw [hc] at hm
        have HG : Hid (rdT bs = none) := by
          show rdT bs = none
          simp [rdT, HC1.out, HC2.out, hc]
        subst hm
        unfold PanF
        go_wp2
        refine ⟨rfl, G2.out.trans g, ?_⟩
        rw [HG.out]; rfl
      | some p =>
        obtain ⟨l3, r3⟩ := p
        rw [hc] at hm
        obtain ⟨v, rfl, ho, h1⟩ := hm
        have HL3 : Hid (l3.length < 256) := (rdL_only rdS_only r2 l3 r3 H2.out.byt hc).2.1
        have HC3 : Hid (rdL rdS r2 = some (l3, r3)) := hc
        obtain ⟨a3, k3, rfl, hi⟩ := ss_of_owns ho
        have HI3 : Hid (IsSs w3 a3 l3) := hi
        have HW3 : Hid (InBlocks w2.heap.size w3.heap.size a3 ∧ (a3 = none → k3 = 0)) := owns_in ho
        have H3 : Hid (RdS P w3 r3) := h1
        have G3 : Hid (w.grownBy w3 (some P)) := G2.out.trans g
        have T3 : Hid (w2.grownBy w3 (some P)) := g
        have c0 := gb_cell g hR c0
        have c1 := gb_cell g hR c1
        have c2 := gb_cell g hR c2
        have f0 := gb_frozen g hR S2.out f0
        have S3 : Hid (w.heap.size < w3.heap.size) := Nat.lt_of_lt_of_le S2.out g.size
        clear h1 g hc ho hi
        have HG : Hid (rdT bs = some ((l1, l2, l3), r3)) := by
          show rdT bs = _
          simp [rdT, HC1.out, HC2.out, HC3.out]
        obtain ⟨y0, y1, y2⟩ := put3 (.slice a1 l1.length k1) (.slice a2 l2.length k2) (.slice a3 l3.length k3) c0 c1 c2
        have b0 := S0.out
        have b1 := T1.out.size
        have b2 := T2.out.size
        have b3 := T3.out.size
        have HX : Hid (IsX w3 ⟨a1, a2, a3, k1, k2, k3, l1, l2, l3⟩) := by
          have m1 := HL1.out
          have m2 := HL2.out
          have m3 := HL3.out
          exact ⟨⟨gb_ints T3.out (gb_ints T2.out HI1.out HW1.out.1 (by omega)) HW1.out.1 (by omega), gb_gs T3.out HI2.out HW2.out.1 (by omega), HI3.out, by simp only; unfold maxLen; omega, by simp only; unfold maxLen; omega, by simp only; unfold maxLen; omega⟩, HW1.out.2, HW2.out.2, HW3.out.2⟩
        have HXB : Hid (XB (w.heap.size + 1) w3.heap.size ⟨a1, a2, a3, k1, k2, k3, l1, l2, l3⟩) := ⟨HW1.out.1.widen (by omega) (by omega), HW2.out.1.widen (by omega) (by omega), HW3.out.1.widen (by omega) (by omega)⟩
        clear b0 b1 b2 b3
        go_wp2_with fail
        refine bodyPost_ret (v := .agg #[.slice a1 l1.length k1, .slice a2 l2.length k2, .slice a3 l3.length k3]) (by simp [results, Try.results93, go_sem, y0, y1, y2]) rfl ⟨(gb_own (gb_own (gb_own G3.out (Nat.le_refl _) 0 _) (Nat.le_refl _) 1 _) (Nat.le_refl _) 2 _), ?_⟩
        rw [HG.out]
        refine ⟨_, rfl, ⟨⟨a1, a2, a3, k1, k2, k3, l1, l2, l3⟩, rfl, rfl, ?_, HXB.out.widen (by omega) (by simp)⟩, ((H3.out.set hR).set hR).set hR⟩
        exact gb_x (gb_one _ _ _ _) (gb_x (gb_one _ _ _ _) (gb_x (gb_one _ _ _ _) HX.out HXB.out (Nat.lt_succ_self _)) HXB.out (Nat.lt_succ_self _)) HXB.out (Nat.lt_succ_self _)
end Go.Proofs.Ytcgpkonfneofdaa

namespace Go.Proofs.Ytcgpkonfneofdaa
open Go.RowKit

/-- An append of a transaction to transactions that the call owns, at a plain region. -/
theorem wpList_append_row {w : World} {ops : Array Oper} {rest : List Oper} {o : Oper} {a : Act} {Q : Exit → Act → World → Prop} (hgd : o.guard = none) (s x : Operand)
    (ho : o.op = .call { callee := .builtin .append, args := #[s, x], argTypes := #[23, 23] })
    (C : Nat) (v : Value) (l : List TxA) (hs : a.eval s = v) (hown : TxRow C w v l)
    (ad : Addr) (y : TxA) (c : Nat) (hx : a.eval x = .slice (some ad) 1 c) (hnews : ∀ j u, (xcells y)[j]? = some u → w.cell? (ad.add j) = some u) (hm : IsX w y ∧ XIn C w.heap.size v y)
    (hsm : l.length ≤ 1000) (hbase : C ≤ w.heap.size)
    (h : ∀ v' w', TxRow C w' v' (l ++ [y]) → w.grownBy w' v.ownBlock → wpList Try.prog ops Q rest (a.put o.dst v') w') :
    wpList Try.prog ops Q (o :: rest) a w := by
  obtain ⟨i, hi, hz, hsz, hby⟩ := info_parts Try.info38
  refine wpList_append_own_at w hgd s x 23 ho C 38 i _ 3 72 Try.underlying23 hi hz hsz hby rfl (by decide) v l.length (flatX l) hs hown.1 ad 1 c (xcells y) hx rfl hnews (fun u hu => flatX_one [y] u (by simpa [flatX] using hu)) (by unfold maxLen; omega) (by omega) hbase ?_
  intro v' w' h2 h3 _ h5
  exact h v' w' (hown.push (m := [y]) (by simpa [flatX] using h2) h3 h5 (fun x hx => by simp only [List.mem_singleton] at hx; subst hx; exact hm)) h3
theorem XB.xin {C lo hi : Nat} {v : Value} {x : TxA} (h : XB lo hi x) (hC : C ≤ lo) (hv : ∀ j, v.ownBlock = some j → j < lo) : XIn C hi v x :=
  ⟨h.1.widen hC (Nat.le_refl _), h.2.1.widen hC (Nat.le_refl _), h.2.2.widen hC (Nat.le_refl _), fun ad e q => by have := hv _ q; have := (h.1 ad e).1; omega, fun ad e q => by have := hv _ q; have := (h.2.1 ad e).1; omega, fun ad e q => by have := hv _ q; have := (h.2.2 ad e).1; omega⟩
set_option maxRecDepth 100000 in
set_option maxHeartbeats 1500000 in
/-- Transactions. -/
theorem rdTxns_any (P : Nat) (bs : List Int) (w : World) (h : RdS P w bs) :
    Calls Try.prog 92 #[.pointer (some ⟨P, 0, none⟩), .func (.func 93) #[.pointer (some ⟨P, 0, none⟩)] #[]] w fun e w' => RdR P w (rdL rdT bs) (fun l v w' => ∃ cl, TxRow w.heap.size w' v cl ∧ cl.map TxA.core = l) e w' := by
  have hP := h.lt
  have HB : Hid (Byt bs) := h.byt
  have H0 : Hid (RdS P w bs) := h
  clear h
  go_enter Try.func92, Try.ntmps92
  go_wp2_with fail
  refine (rdNum_any P bs _ H0.out).mono ?_
  rintro e w1 ⟨g, hm⟩
  cases hc : rdN bs with
  | none =>
    rw [hc] at hm
    have HG : Hid (rdL rdT bs = none) := by
      show rdL rdT bs = none
      simp [rdL, hc]
    subst hm
    unfold PanF
    go_wp2
    refine ⟨rfl, g, ?_⟩
    rw [HG.out]; rfl
  | some p =>
    obtain ⟨b, r0⟩ := p
    rw [hc] at hm
    obtain ⟨v, rfl, rfl, h1⟩ := hm
    obtain ⟨hb0, hb1⟩ := HB.out b (rdN_mem hc)
    obtain ⟨n, rfl⟩ : ∃ n : Nat, b = n := ⟨b.toNat, by omega⟩
    have HL : Hid (rdL rdT bs = rdK rdT n r0) := by
      show rdL rdT bs = _
      simp [rdL, hc]
    have H1 : Hid (RdS P w1 r0) := h1
    have G1 : Hid (w.grownBy w1 (some P)) := g
    clear h1 g hc hb0
    go_wp2
    go_loopw [5, 8] (fun v i wr => ∃ (k : Nat) (l : List TxA) (r : List Int), k ≤ n ∧ i = .int .i64 k ∧ l.length = k ∧ Hid (rdK rdT n r0 = (rdK rdT (n - k) r).map fun q => (l.map TxA.core ++ q.1, q.2)) ∧ Hid (TxRow w.heap.size wr v l) ∧ Hid (RdS P wr r) ∧ Hid (w.grownBy wr (some P))) (fun _ i _ => n - (intOf i).toNat)
    case atStart => exact ⟨0, [], r0, Nat.zero_le _, rfl, rfl, by show _ = _; simp, txRow_nil _ _, H1, G1⟩
    case round =>
      obtain ⟨k, l, r, hk, rfl, hl, hK, hrow, hR, hG⟩ := hrel
      by_cases hlt : k < n
      · have hlow : Hid (∀ j, u5.ownBlock = some j → w.heap.size ≤ j ∧ j < wr.heap.size) := fun j hj => hrow.out.1.lt j hj
        go_wp2_with fail
        refine (rdTxn_any P r _ hR.out).mono ?_
        rintro e w3 ⟨g, hm⟩
        cases hc : rdT r with
        | none =>
          rw [hc] at hm
          have HG : Hid (rdL rdT bs = none) := by
            show rdL rdT bs = none
            rw [HL.out, hK.out]
            obtain ⟨j, hj⟩ : ∃ j, n - k = j + 1 := ⟨n - k - 1, by omega⟩
            rw [hj]
            simp [rdK, hc]
          subst hm
          unfold PanF
          go_wp2
          refine ⟨rfl, hG.out.trans g, ?_⟩
          rw [HG.out]; rfl
        | some p =>
          obtain ⟨c, r'⟩ := p
          rw [hc] at hm
          obtain ⟨v, rfl, ⟨x, rfl, rfl, hx, hxb⟩, h3⟩ := hm
          have HK3 : Hid (rdK rdT n r0 = (rdK rdT (n - (k + 1)) r').map fun q => ((l ++ [x]).map TxA.core ++ q.1, q.2)) := by
            show _ = _
            rw [hK.out]
            obtain ⟨j, hj⟩ : ∃ j, n - k = j + 1 := ⟨n - k - 1, by omega⟩
            have hj2 : n - (k + 1) = j := by omega
            rw [hj, hj2]
            simp [rdK, hc, Option.map_map, Function.comp_def]
          have hCw : w.heap.size ≤ wr.heap.size := hG.out.size
          have hww : wr.heap.size ≤ w3.heap.size := g.size
          have HO : Hid (TxRow w.heap.size w3 u5 l) := hrow.out.kept g (fun j e => by injection e with e; omega)
          have HM : Hid (∀ o, IsX (w3.alloc o) x ∧ XIn w.heap.size (w3.alloc o).heap.size u5 x) := fun o => ⟨hx.below (grow_alloc (Below.refl _ _) _), (hxb.xin hCw (fun j hj => (hlow.out j hj).2)).widen (Nat.le_refl _) (by simp)⟩
          have H3 : Hid (RdS P w3 r') := h3
          have G3 : Hid (w.grownBy w3 (some P)) := hG.out.trans g
          clear h3 g hc hK hrow hR hG hx hxb
          obtain ⟨ra, ga, sa, rc, gc, sc, rs, gs, ss⟩ := x
          simp only
          go_wp2_with (first
            | (at_builtin; refine wpList_append_row rfl _ _ rfl w.heap.size u5 l rfl (HO.out.below (grow_alloc (Below.refl _ _) _)) _ ⟨ra, ga, sa, rc, gc, sc, rs, gs, ss⟩ 1 rfl (news_lit w3 [.slice ra rs.length rc, .slice ga gs.length gc, .slice sa ss.length sc] 38 _ rfl) (HM.out _) (by omega) (by simp; omega) ?_; intro v' w5 hown' hgrow; have HO5 := hid hown'; have HGR := hid hgrow; clear hown' hgrow)
            | go_in)
          go_roundw
          case rel =>
            have hgA : w3.grownBy w5 u5.ownBlock := (World.grownBy_alloc w3 _ _).trans HGR.out
            refine ⟨k + 1, l ++ [⟨ra, ga, sa, rc, gc, sc, rs, gs, ss⟩], r', by omega, by go_num, by simp [hl], HK3, HO5, ?_, ?_⟩
            · exact H3.out.kept hgA (fun e => by have := (hlow.out P e.symm).1; omega)
            · exact gb_up G3.out hgA (fun j hj => (hlow.out j hj).1)
          case measure => simp [intOf]; omega
      · have hkn : k = n := by omega
        subst hkn
        have HE : Hid (rdL rdT bs = some (l.map TxA.core, r)) := by
          show rdL rdT bs = _
          rw [HL.out, hK.out]
          simp [rdK]
        clear hK HL
        go_wp2
        go_ret
        refine ⟨hG.out, ?_⟩
        rw [HE.out]
        exact ⟨_, rfl, ⟨l, hrow.out, rfl⟩, hR.out⟩
theorem TxRow.set {C R i : Nat} {w : World} {v u : Value} {l : List TxA} (h : TxRow C w v l) (hR : R < C) : TxRow C (w.setCell ⟨R, i, none⟩ u) v l := h.kept (gb_one w R i u) (fun j e => by injection e with e; omega)
set_option maxRecDepth 100000 in
set_option maxHeartbeats 1500000 in
/-- A plan. -/
theorem rdPlan_any (P : Nat) (bs : List Int) (w : World) (h : RdS P w bs) :
    Calls Try.prog 62 #[.pointer (some ⟨P, 0, none⟩)] w fun e w' => RdR P w (rdP bs) (fun p v w' => ∃ v2 cl, v = .agg #[.int .i64 p.1, v2] ∧ TxRow (w.heap.size + 1) w' v2 cl ∧ cl.map TxA.core = p.2) e w' := by
  have hmf : ∀ (fn : Fn) (first cap : Array Value) (w : World), (Instr.makeFunc fn first cap).run Try.prog w = .ok (.func fn first cap) w := fun _ _ _ _ => rfl
  have hP := h.lt
  obtain ⟨W, hWe⟩ : ∃ W, W = w.alloc (.cells #[.int .i64 0, .slice none 0 0] 50) := ⟨_, rfl⟩
  have HWE : Hid (W = w.alloc (.cells #[.int .i64 0, .slice none 0 0] 50)) := hWe
  have H0 : Hid (RdS P W bs) := by subst hWe; exact h.alloc _
  have G0 : Hid (w.grownBy W (some P)) := by subst hWe; exact World.grownBy_alloc _ _ _
  have S0 : Hid (w.heap.size < W.heap.size) := by subst hWe; show _ < _; simp
  have c0 : W.cell? ⟨w.heap.size, 0, none⟩ = some (.int .i64 0) := by subst hWe; simp
  have c1 : W.cell? ⟨w.heap.size, 1, none⟩ = some (.slice none 0 0) := by subst hWe; simp
  have f0 : ∀ i, W.frozen? ⟨w.heap.size, i, none⟩ = false := by subst hWe; intro i; simp
  have hR : w.heap.size ≠ P := by omega
  clear h hWe
  go_enter Try.func62, Try.ntmps62
  go_upto_region 1 with fail
  rw [← HWE.out]
  go_wp2_with fail
  refine (rdNum_any P bs _ H0.out).mono ?_
  rintro e w1 ⟨g, hm⟩
  cases hc : rdN bs with
  | none =>
    rw [hc] at hm
    have HG : Hid (rdP bs = none) := by
      show rdP bs = none
      simp [rdP, hc]
    subst hm
    unfold PanF
    go_wp2
    refine ⟨rfl, G0.out.trans g, ?_⟩
    rw [HG.out]; rfl
  | some p =>
    obtain ⟨m, r1⟩ := p
    rw [hc] at hm
    obtain ⟨v, rfl, rfl, h1⟩ := hm
    have HC1 : Hid (rdN bs = some (m, r1)) := hc
    have H1 : Hid (RdS P w1 r1) := h1
    have G1 : Hid (w.grownBy w1 (some P)) := G0.out.trans g
    have c0 := gb_cell g hR c0
    have c1 := gb_cell g hR c1
    have f0 := gb_frozen g hR S0.out f0
    have S1 : Hid (w.heap.size < w1.heap.size) := Nat.lt_of_lt_of_le S0.out g.size
    clear h1 g hc
    go_wp2_with fail
    refine (rdTxns_any P r1 _ H1.out).mono ?_
    rintro e w2 ⟨g, hm⟩
    cases hc : rdL rdT r1 with
    | none =>
      rw [hc] at hm
      have HG : Hid (rdP bs = none) := by
        show rdP bs = none
        simp [rdP, HC1.out, hc]
      subst hm
      unfold PanF
      go_wp2
      refine ⟨rfl, G1.out.trans g, ?_⟩
      rw [HG.out]; rfl
    | some p =>
      obtain ⟨l, r2⟩ := p
      rw [hc] at hm
      obtain ⟨v, rfl, ⟨cl, hrow, hcl⟩, h2⟩ := hm
      have HG : Hid (rdP bs = some ((m, l), r2)) := by
        show rdP bs = _
        simp [rdP, HC1.out, hc]
      have HRW : Hid (TxRow (w.heap.size + 1) w2 v cl) := hrow.low S1.out
      have HCL : Hid (cl.map TxA.core = l) := hcl
      have H2 : Hid (RdS P w2 r2) := h2
      have G2 : Hid (w.grownBy w2 (some P)) := G1.out.trans g
      have c0 := gb_cell g hR c0
      have c1 := gb_cell g hR c1
      have f0 := gb_frozen g hR S1.out f0
      obtain ⟨a2, k2, hv, _⟩ := hrow.txs
      subst hv
      clear h2 g hc hrow hcl
      obtain ⟨y0, y1⟩ := put2 (.int .i64 m) (.slice a2 cl.length k2) c0 c1
      go_wp2_with fail
      refine bodyPost_ret (v := .agg #[.int .i64 m, .slice a2 cl.length k2]) (by simp [results, Try.results62, go_sem, y0, y1]) rfl ⟨(gb_own (gb_own G2.out (Nat.le_refl _) 0 _) (Nat.le_refl _) 1 _), ?_⟩
      rw [HG.out]
      exact ⟨_, rfl, ⟨_, cl, rfl, (HRW.out.set (Nat.lt_succ_self _)).set (Nat.lt_succ_self _), HCL.out⟩, (H2.out.set hR).set hR⟩
end Go.Proofs.Ytcgpkonfneofdaa
