/-
  Audit: who set a key last.
  Conditions: those that each theorem states.
-/
import Derived.Test.YtcgpkonfneofdaaAudA
import Derived.Test.YtcgpkonfneofdaaStoreE
import Derived.WalkKit
import Derived.WalkSpells
import Derived.WalkLawsBesides
import Derived.Defers
import Derived.Recover
import Derived.ProofKit
import Derived.Deep.RegionHeld
import Derived.Deep.RegionHeld3
import Derived.Deep.RegionLaw
import Derived.Deep.DeepCutAuto
import Derived.Deep.QuietTactic
import Derived.BigQuiet
import Derived.Maps.AppendAt
import Derived.Maps.OwnSet
import Derived.Maps.OwnOps
import Derived.Lib.SliceRun
import Derived.Deep.AppendLies
namespace Go.Proofs.Ytcgpkonfneofdaa
open Go.RowKit Go.Maps

/-- Who set a key last, among the first so many. -/
def lB (R : List (Bool × List Int)) (l : List TxA) (key : Int) : Nat → Int
  | 0 => -1
  | i + 1 => if (R.getD i (false, [])).1 = true ∧ key ∈ keysOf (l.getD i x0).ss then ((i : Nat) : Int) else lB R l key i
def lC (R : List (Bool × List Int)) (l : List TxA) (key : Int) (k j : Nat) : Int := if key ∈ (keysOf (l.getD k x0).ss).take j then ((k : Nat) : Int) else lB R l key k
/-- A map that tells so of each key. -/
def LastIs (D : DataW Unit) (f : Int → Int) : Prop := ∀ key : Int, Maps.has D (.int .i64 key) = decide (¬ f key = -1) ∧ (¬ f key = -1 → D.atKey (.int .i64 key) (.lit (.int .i64 0)) = .lit (.int .i64 (f key)))
theorem lastIs_nil (R : List (Bool × List Int)) (l : List TxA) : LastIs (.map []) (fun key => lB R l key 0) := fun _ => ⟨rfl, fun h => absurd rfl h⟩
theorem LastIs.put {D : DataW Unit} {f : Int → Int} (h : LastIs D f) (hD : Maps.IsMap D) (x : Int) (n : Nat) : LastIs (D.put (.int .i64 x) (.lit (.int .i64 (n : Nat)))) (fun key => if key = x then ((n : Nat) : Int) else f key) := fun key => by
  by_cases e : key = x
  · subst e
    have hn : ¬ ((n : Nat) : Int) = -1 := by omega
    simp only [if_true]
    exact ⟨by rw [Maps.has_put_same hD (show WideAt.IsKeyLit (.int .i64 key) from trivial), decide_eq_true hn], fun _ => Maps.atKey_put_same hD (show WideAt.IsKeyLit (.int .i64 key) from trivial) _ _⟩
  · have hne : Lit.int .i64 key ≠ Lit.int .i64 x := fun h => e (by injection h)
    simp only [if_neg e]
    rw [Maps.has_put_other hne, Maps.atKey_put_other hne]
    exact h key
theorem LastIs.of_eq {D : DataW Unit} {f g : Int → Int} (h : LastIs D f) (e : ∀ key, g key = f key) : LastIs D g := fun key => by rw [e key]; exact h key
theorem lC_zero (R : List (Bool × List Int)) (l : List TxA) (key : Int) (k : Nat) : lC R l key k 0 = lB R l key k := by simp [lC]
theorem keys_take (ss : List St) (j : Nat) (hj : j < ss.length) : (keysOf ss).take (j + 1) = (keysOf ss).take j ++ [(ss.getD j s0).key] := by
  have e : (keysOf ss)[j]? = some (ss.getD j s0).key := by simp [keysOf, List.getD, hj]
  rw [List.take_add_one, e]
  rfl
theorem lC_step (R : List (Bool × List Int)) (l : List TxA) (key : Int) (k j : Nat) (hj : j < (l.getD k x0).ss.length) : lC R l key k (j + 1) = if key = ((l.getD k x0).ss.getD j s0).key then ((k : Nat) : Int) else lC R l key k j := by
  have e := keys_take (l.getD k x0).ss j hj
  unfold lC
  rw [e]
  clear e
  generalize (keysOf (l.getD k x0).ss).take j = T
  generalize ((l.getD k x0).ss.getD j s0).key = y
  by_cases c : key = y
  · rw [if_pos (by simp [c]), if_pos c]
  · rw [if_neg c]
    by_cases d : key ∈ T
    · rw [if_pos d, if_pos (by simp [d])]
    · rw [if_neg d, if_neg (by simp [d, c])]
theorem lC_all (R : List (Bool × List Int)) (l : List TxA) (key : Int) (k : Nat) (hd : (R.getD k (false, [])).1 = true) : lB R l key (k + 1) = lC R l key k (l.getD k x0).ss.length := by
  have e : (keysOf (l.getD k x0).ss).take (l.getD k x0).ss.length = keysOf (l.getD k x0).ss := List.take_of_length_le (by simp [keysOf])
  unfold lC
  rw [lB, e]
  by_cases c : key ∈ keysOf (l.getD k x0).ss
  · rw [if_pos c, if_pos ⟨hd, c⟩]
  · rw [if_neg c, if_neg (fun h => c h.2)]
theorem lB_off (R : List (Bool × List Int)) (l : List TxA) (key : Int) (k : Nat) (hd : (R.getD k (false, [])).1 = false) : lB R l key (k + 1) = lB R l key k := by
  rw [lB, if_neg (fun h => by rw [hd] at h; exact absurd h.1 (by decide))]
theorem law3 : Maps.Keyed Try.prog 3 := Maps.int_keyed Try.underlying3
set_option maxRecDepth 100000 in
theorem zero3 (w : World) : (zeroValue 3).run Try.prog w = .ok (.int .i64 0) w := by kernel_rfl

variable (la xa : Option Addr) (lc xc : Nat) (l : List TxA) (R : List (Bool × List Int))

set_option maxRecDepth 100000 in
set_option maxHeartbeats 4000000 in
/-- Who set each key last. -/
theorem setLast_any (n : Nat) (w : World) (hl : IsTxs w la l) (hx : IsRes w xa R) (hn : n ≤ l.length) (hnR : n ≤ R.length) (h8 : l.length ≤ 8) (h3 : ∀ k, k < l.length → (l.getD k x0).ss.length ≤ 3 ∧ ∀ j, j < (l.getD k x0).ss.length → 0 ≤ ((l.getD k x0).ss.getD j s0).key ∧ ((l.getD k x0).ss.getD j s0).key ≤ 7) :
    Calls Try.prog 34 #[.slice la n lc, .slice xa R.length xc] w fun e w' => e = .returned (.map (some w.heap.size)) ∧ (∃ (m : Nat) (D : DataW Unit), w'.ownsMap Try.prog 3 (plainElem (H := Unit) Try.prog 3) w.heap.size m D ∧ LastIs D (fun key => lB R l key n)) ∧ Below w.heap.size w w' := by
  have hmm := @run_makeMap Try.prog
  have HL : Hid (IsTxs w la l) := hl
  have HX : Hid (IsRes w xa R) := hx
  have H3 : Hid (∀ k, k < l.length → (l.getD k x0).ss.length ≤ 3 ∧ ∀ j, j < (l.getD k x0).ss.length → 0 ≤ ((l.getD k x0).ss.getD j s0).key ∧ ((l.getD k x0).ss.getD j s0).key ≤ 7) := h3
  clear hl hx h3
  go_enter Try.func34, Try.ntmps34
  go_wp2
  go_loopw [13] (fun i wr => ∃ k : Nat, k ≤ n ∧ i = .int .i64 k ∧ (∃ (m : Nat) (D : DataW Unit), m ≤ 3 * k ∧ Hid (wr.ownsMap Try.prog 3 (plainElem (H := Unit) Try.prog 3) w.heap.size m D) ∧ Hid (LastIs D (fun key => lB R l key k))) ∧ Hid (Below w.heap.size w wr)) (fun i _ => n - (intOf i).toNat)
  case atStart => exact ⟨0, Nat.zero_le _, rfl, ⟨0, .map [], Nat.le_refl _, World.ownsMap_made _ _ _ _, lastIs_nil R l⟩, grow_alloc (Below.refl _ _) _⟩
  case round =>
    obtain ⟨k, hk, rfl, ⟨m, D, hm, hown, hlast⟩, hB⟩ := hrel
    by_cases hlt : k < n
    · obtain ⟨b, off, ela, hb, c0, c1, c2, hxx⟩ := HL.out k (by omega)
      obtain ⟨b', off', va', vc', exa, hb', d0, d1, _⟩ := HX.out k (by omega)
      obtain ⟨hs3, hkeys⟩ := H3.out k (by omega)
      have HKEYS : Hid (∀ j, j < (l.getD k x0).ss.length → 0 ≤ ((l.getD k x0).ss.getD j s0).key ∧ ((l.getD k x0).ss.getD j s0).key ≤ 7) := hkeys
      have hsl : IsSs w (l.getD k x0).sa (l.getD k x0).ss := hxx.t.s
      have HSL : Hid (IsSs w (l.getD k x0).sa (l.getD k x0).ss) := hsl
      subst ela exa
      have c0 := ext_cell hB.out c0
      have c1 := ext_cell hB.out c1
      have c2 := ext_cell hB.out c2
      have d0 := ext_cell (grow_alloc hB.out (.cells #[.slice (l.getD k x0).ra (l.getD k x0).rs.length (l.getD k x0).rc, .slice (l.getD k x0).ga (l.getD k x0).gs.length (l.getD k x0).gc, .slice (l.getD k x0).sa (l.getD k x0).ss.length (l.getD k x0).sc] 38)) d0
      have u2 : (wr.alloc (.cells #[.slice (l.getD k x0).ra (l.getD k x0).rs.length (l.getD k x0).rc, .slice (l.getD k x0).ga (l.getD k x0).gs.length (l.getD k x0).gc, .slice (l.getD k x0).sa (l.getD k x0).ss.length (l.getD k x0).sc] 38)).cell? ⟨wr.heap.size, 2, none⟩ = some (.slice (l.getD k x0).sa (l.getD k x0).ss.length (l.getD k x0).sc) := at_new _ _ 38 _ 2 _ rfl rfl
      have hB2 : Hid (Below w.heap.size w (wr.alloc (.cells #[.slice (l.getD k x0).ra (l.getD k x0).rs.length (l.getD k x0).rc, .slice (l.getD k x0).ga (l.getD k x0).gs.length (l.getD k x0).gc, .slice (l.getD k x0).sa (l.getD k x0).ss.length (l.getD k x0).sc] 38))) := grow_alloc hB.out _
      have hown2 : Hid ((wr.alloc (.cells #[.slice (l.getD k x0).ra (l.getD k x0).rs.length (l.getD k x0).rc, .slice (l.getD k x0).ga (l.getD k x0).gs.length (l.getD k x0).gc, .slice (l.getD k x0).sa (l.getD k x0).ss.length (l.getD k x0).sc] 38)).ownsMap Try.prog 3 (plainElem (H := Unit) Try.prog 3) w.heap.size m D) := hown.out.alloc _
      have i1 : (k : Int) < (n : Int) := by omega
      have i2 : (k : Int) < (R.length : Int) := by omega
      have HON : Hid ((R.getD k (false, [])).1 = true → ∀ key, lB R l key (k + 1) = lC R l key k (l.getD k x0).ss.length) := fun h key => lC_all R l key k h
      have HOFF : Hid ((R.getD k (false, [])).1 = false → ∀ key, lB R l key (k + 1) = lB R l key k) := fun h key => lB_off R l key k h
      have HC0 : Hid (∀ key, lC R l key k 0 = lB R l key k) := fun key => lC_zero R l key k
      have HCS : Hid (∀ key j, j < (l.getD k x0).ss.length → lC R l key k (j + 1) = if key = ((l.getD k x0).ss.getD j s0).key then ((k : Nat) : Int) else lC R l key k j) := fun key j hj => lC_step R l key k j hj
      clear hb hb' hxx hkeys hsl d1 hown hB
      generalize (R.getD k (false, [])).1 = dn at *
      generalize hX : l.getD k x0 = X at *
      obtain ⟨ra, ga, ta, rc, gc, tc, rs, gs, ss⟩ := X
      simp only at c0 c1 c2 u2 hs3
      go_upto_region 5 with fail
      clear c0 c1 c2
      generalize (wr.alloc (.cells #[.slice ra rs.length rc, .slice ga gs.length gc, .slice ta ss.length tc] 38)) = V at *
      generalize wr.heap.size = vb at *
      cases dn with
      | false =>
        have L2 : Hid (LastIs D (fun key => lB R l key (k + 1))) := hlast.out.of_eq (HOFF.out rfl)
        clear HON HOFF HC0 HCS hlast
        go_wp2
        go_roundw
        case rel => exact ⟨k + 1, by omega, by go_num, ⟨m, D, by omega, hown2, L2⟩, hB2⟩
        case measure => simp [intOf]; omega
      | true =>
        have L0 : Hid (LastIs D (fun key => lC R l key k 0)) := hlast.out.of_eq (HC0.out)
        have HON2 : Hid (∀ key, lB R l key (k + 1) = lC R l key k ss.length) := HON.out rfl
        clear HON HOFF HC0 hlast
        go_wp2
        clear u2 d0
        go_loopw [27] (fun i wq => ∃ j : Nat, j ≤ ss.length ∧ i = .int .i64 j ∧ (∃ (m : Nat) (D : DataW Unit), m ≤ 3 * k + j ∧ Hid (wq.ownsMap Try.prog 3 (plainElem (H := Unit) Try.prog 3) w.heap.size m D) ∧ Hid (LastIs D (fun key => lC R l key k j))) ∧ Hid (Below w.heap.size w wq)) (fun i _ => ss.length - (intOf i).toNat)
        case atStart => exact ⟨0, Nat.zero_le _, rfl, ⟨m, D, by omega, hown2, L0⟩, hB2⟩
        case round =>
          clear hown2 L0 hB2
          obtain ⟨j, hj, rfl, ⟨m, D, hm, hown, hlast⟩, hB⟩ := hrel
          by_cases hltj : j < ss.length
          · obtain ⟨b2, off2, esa, _, s0', s1', s2', s3', s4', s5'⟩ := HSL.out j hltj
            obtain ⟨kl, kh⟩ := HKEYS.out j hltj
            have esa' : ta = some ⟨b2, off2, none⟩ := esa
            subst esa'
            have s0' := ext_cell hB.out s0'
            have s1' := ext_cell hB.out s1'
            have s2' := ext_cell hB.out s2'
            have s3' := ext_cell hB.out s3'
            have s4' := ext_cell hB.out s4'
            have s5' := ext_cell hB.out s5'
            have HST : Hid (∀ key, lC R l key k (j + 1) = if key = (ss.getD j s0).key then ((k : Nat) : Int) else lC R l key k j) := fun key => HCS.out key j hltj
            generalize ss.getD j s0 = z at *
            obtain ⟨zk, zo, zak, zan, zbk, zbn⟩ := z
            simp only at s0' s1' s2' s3' s4' s5' kl kh HST
            have i3 : (j : Int) < (ss.length : Int) := by omega
            have hkey : keyOf Try.prog 3 (.int .i64 zk) = some (.int .i64 zk) := Maps.keyOf_int_mk Try.underlying3 (WalkArith.wf_i64 (by omega))
            have hown3 : (wr.alloc (.cells #[.int .i64 zk, .int .i64 zo, .int .i64 zak, .int .i64 zan, .int .i64 zbk, .int .i64 zbn] 47)).ownsMap Try.prog 3 (plainElem (H := Unit) Try.prog 3) w.heap.size m D := hown.out.alloc _
            have q0 : (wr.alloc (.cells #[.int .i64 zk, .int .i64 zo, .int .i64 zak, .int .i64 zan, .int .i64 zbk, .int .i64 zbn] 47)).cell? ⟨wr.heap.size, 0, none⟩ = some (.int .i64 zk) := at_new _ _ 47 _ 0 _ rfl rfl
            have hB3 : Hid (Below w.heap.size w (wr.alloc (.cells #[.int .i64 zk, .int .i64 zo, .int .i64 zak, .int .i64 zan, .int .i64 zbk, .int .i64 zbn] 47))) := grow_alloc hB.out _
            have L1 := (hlast.out.put hown.out.isMap zk k).of_eq (g := fun key => lC R l key k (j + 1)) HST.out
            have HL1 : Hid (LastIs (D.put (.int .i64 zk) (.lit (.int .i64 (k : Nat)))) (fun key => lC R l key k (j + 1))) := L1
            clear hown hB hlast HST L1 esa
            go_upto_region 9 with fail
            clear s0' s1' s2' s3' s4' s5'
            generalize (wr.alloc (.cells #[.int .i64 zk, .int .i64 zo, .int .i64 zak, .int .i64 zan, .int .i64 zbk, .int .i64 zbn] 47)) = U at *
            go_wp2_with (first
              | (at_mapUpdate; refine wpList_mapUpdate_own _ rfl _ _ _ 70 rfl 3 3 law3 Try.underlying70 _ w.heap.size m D rfl hown3 (by unfold maxLen; omega) _ _ _ rfl rfl hkey _ [] (plainElem_int Try.underlying3 (WalkArith.wf_i64 (by omega))) ?_; intro w5 hown5 hgrow5)
              | go_in)
            have hB5 : Hid (Below w.heap.size w w5) := hB3.out.grown hgrow5 hB3.out.size (fun j hj => by cases hj; exact Nat.le_refl _)
            have hown6 : Hid (w5.ownsMap Try.prog 3 (plainElem (H := Unit) Try.prog 3) w.heap.size (m + 1) (D.put (.int .i64 zk) (.lit (.int .i64 (k : Nat))))) := hown5
            clear hown5 hgrow5 hown3 hB3 q0 hkey
            go_roundw
            case rel => exact ⟨j + 1, by omega, by go_num, ⟨m + 1, _, by omega, hown6, HL1⟩, hB5⟩
            case measure => simp [intOf]; omega
          · have hjj : j = ss.length := by omega
            have i3 : ¬ (j : Int) < (ss.length : Int) := by omega
            have L2 : Hid (LastIs D (fun key => lB R l key (k + 1))) := hlast.out.of_eq (fun key => by rw [HON2.out key, hjj])
            have hm2 : m ≤ 3 * (k + 1) := by omega
            clear hjj hltj hlast
            go_wp2
            go_roundw
            case rel => exact ⟨k + 1, by omega, by go_num, ⟨m, D, hm2, hown, L2⟩, hB⟩
            case measure => simp [intOf]; omega
    · have hkk : k = n := by omega
      subst hkk
      have i1 : ¬ (k : Int) < (k : Int) := by omega
      go_wp2
      go_ret
      exact ⟨rfl, ⟨m, D, hown.out, hlast.out⟩, hB.out⟩
end Go.Proofs.Ytcgpkonfneofdaa
