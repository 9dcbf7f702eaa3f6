/-
  
  Conditions: those that each theorem states.
-/
import Derived.Test.YtcgpkonfneofdaaGreatSAudA
import Derived.Maps.OwnOps
set_option maxRecDepth 100000
namespace Go.Proofs.YtcgpkonfneofdaaGreat
open Go.RowKit Go.Maps
def lB (R : List (Bool × List Int)) (l : List TxA) (key : Int) : Nat → Int
 | 0 => -1
 | i + 1 => if (R.getD i (false, [])).1 = true ∧ key ∈ keysOf (l.getD i x0).ss then ((i : Nat) : Int) else lB R l key i
def lC (R : List (Bool × List Int)) (l : List TxA) (key : Int) (k j : Nat) : Int := if key ∈ (keysOf (l.getD k x0).ss).take j then ((k : Nat) : Int) else lB R l key k
def LastIs (D : DataW Unit) (f : Int → Int) : Prop := ∀ key : Int, Maps.has D (.int .i64 key) = decide (¬ f key = -1) ∧ (¬ f key = -1 → D.atKey (.int .i64 key) (.lit (.int .i64 0)) = .lit (.int .i64 (f key)))
theorem lastIs_nil (R : List (Bool × List Int)) (l : List TxA) : LastIs (.map []) (fun key => lB R l key 0) := fun _ => ⟨rfl, fun h => absurd rfl h⟩
theorem LastIs.put {D : DataW Unit} {f : Int → Int} (h : LastIs D f) (hD : Maps.IsMap D) (x : Int) (n : Nat) : LastIs (D.put (.int .i64 x) (.lit (.int .i64 (n : Nat)))) (fun key => if key = x then ((n : Nat) : Int) else f key) := fun key => by
 by_cases e : key = x
 ·subst e
  have hn : ¬ ((n : Nat) : Int) = -1 := by omega
  simp only [if_true]
  exact ⟨by rw [Maps.has_put_same hD (show WideAt.IsKeyLit (.int .i64 key) from trivial), decide_eq_true hn], fun _ => Maps.atKey_put_same hD (show WideAt.IsKeyLit (.int .i64 key) from trivial) _ _⟩
 ·have hne : Lit.int .i64 key ≠ Lit.int .i64 x := fun h => e (by injection h)
  simp only [if_neg e]
  rw [Maps.has_put_other hne, Maps.atKey_put_other hne]
  exact h key
theorem LastIs.of_eq {D : DataW Unit} {f g : Int → Int} (h : LastIs D f) (e : ∀ key, g key = f key) : LastIs D g := fun key => by rw [e key]; exact h key
theorem lC_zero (R : List (Bool × List Int)) (l : List TxA) (key : Int) (k : Nat) : lC R l key k 0 = lB R l key k := by simp [lC]
theorem keys_take (ss : List St) (j : Nat) (hj : j < ss.length) : (keysOf ss).take (j + 1) = (keysOf ss).take j ++ [(ss.getD j s0).key] := by
 have e : (keysOf ss)[j]? = some (ss.getD j s0).key := by simp [keysOf, List.getD, hj]
 rw [List.take_add_one, e]
 rfl
theorem lC_step (R : List (Bool × List Int)) (l : List TxA) (key : Int) (k j : Nat) (hj : j < (l.getD k x0).ss.length) : lC R l key k (j + 1) = if key = ((l.getD k x0).ss.getD j s0).key then ((k : Nat) : Int) else lC R l key k j := by
 have e := keys_take (l.getD k x0).ss j hj
 unfold lC
 rw [e]
 clear e
 generalize (keysOf (l.getD k x0).ss).take j = T
 generalize ((l.getD k x0).ss.getD j s0).key = y
 by_cases c : key = y
 ·rw [if_pos (by simp [c]), if_pos c]
 ·rw [if_neg c]
  by_cases d : key ∈ T
  ·rw [if_pos d, if_pos (by simp [d])]
  ·rw [if_neg d, if_neg (by simp [d, c])]
theorem lC_all (R : List (Bool × List Int)) (l : List TxA) (key : Int) (k : Nat) (hd : (R.getD k (false, [])).1 = true) : lB R l key (k + 1) = lC R l key k (l.getD k x0).ss.length := by
 have e : (keysOf (l.getD k x0).ss).take (l.getD k x0).ss.length = keysOf (l.getD k x0).ss := List.take_of_length_le (by simp [keysOf])
 unfold lC
 rw [lB, e]
 by_cases c : key ∈ keysOf (l.getD k x0).ss
 ·rw [if_pos c, if_pos ⟨hd, c⟩]
 ·rw [if_neg c, if_neg (fun h => c h.2)]
theorem lB_off (R : List (Bool × List Int)) (l : List TxA) (key : Int) (k : Nat) (hd : (R.getD k (false, [])).1 = false) : lB R l key (k + 1) = lB R l key k := by
 rw [lB, if_neg (fun h => by rw [hd] at h; exact absurd h.1 (by decide))]
theorem law3 : Maps.Keyed Tryz.prog 3 := Maps.int_keyed Tryz.underlying3
theorem zero3 (w : World) : (zeroValue 3).run Tryz.prog w = .ok (.int .i64 0) w := by kernel_rfl
variable (la xa : Option Addr) (lc xc : Nat) (l : List TxA) (R : List (Bool × List Int))
set_option maxHeartbeats 4000000 in
theorem setLast_any (n : Nat) (w : World) (hl : IsTxs w la l) (hx : IsRes w xa R) (hn : n ≤ l.length) (hnR : n ≤ R.length) (h8 : l.length ≤ 8) (h3 : ∀ k, k < l.length → (l.getD k x0).ss.length ≤ 3 ∧ ∀ j, j < (l.getD k x0).ss.length → 0 ≤ ((l.getD k x0).ss.getD j s0).key ∧ ((l.getD k x0).ss.getD j s0).key ≤ 7) :
  Calls Tryz.prog 60 #[.slice la n lc, .slice xa R.length xc] w fun e w' => e = .returned (.map (some w.heap.size)) ∧ (∃ (m : Nat) (D : DataW Unit), w'.ownsMap Tryz.prog 3 (plainElem (H := Unit) Tryz.prog 3) w.heap.size m D ∧ LastIs D (fun key => lB R l key n)) ∧ Below w.heap.size w w' := by
 have hmm := @run_makeMap Tryz.prog
 have HL : Hid (IsTxs w la l) := hl
 have HX : Hid (IsRes w xa R) := hx
 have H3 : Hid (∀ k, k < l.length → (l.getD k x0).ss.length ≤ 3 ∧ ∀ j, j < (l.getD k x0).ss.length → 0 ≤ ((l.getD k x0).ss.getD j s0).key ∧ ((l.getD k x0).ss.getD j s0).key ≤ 7) := h3
 clear hl hx h3
 go_enter Tryz.func60, Tryz.ntmps60
 go_wp2
 go_loopw [13] (fun i wr => ∃ k : Nat, k ≤ n ∧ i = .int .i64 k ∧ (∃ (m : Nat) (D : DataW Unit), m ≤ 3 * k ∧ Hid (wr.ownsMap Tryz.prog 3 (plainElem (H := Unit) Tryz.prog 3) w.heap.size m D) ∧ Hid (LastIs D (fun key => lB R l key k))) ∧ Hid (Below w.heap.size w wr)) (fun i _ => n - (intOf i).toNat)
 case atStart => exact ⟨0, Nat.zero_le _, rfl, ⟨0, .map [], Nat.le_refl _, World.ownsMap_made _ _ _ _, lastIs_nil R l⟩, grow_alloc (Below.refl _ _) _⟩
 case round =>
  obtain ⟨k, hk, rfl, ⟨m, D, hm, hown, hlast⟩, hB⟩ := hrel
  by_cases hlt : k < n
  ·obtain ⟨b, off, ela, hb, c0, c1, c2, hxx⟩ := HL.out k (by omega)
   obtain ⟨b', off', va', vc', exa, hb', d0, d1, _⟩ := HX.out k (by omega)
   obtain ⟨hs3, hkeys⟩ := H3.out k (by omega)
   have HKEYS : Hid (∀ j, j < (l.getD k x0).ss.length → 0 ≤ ((l.getD k x0).ss.getD j s0).key ∧ ((l.getD k x0).ss.getD j s0).key ≤ 7) := hkeys
   have hsl : IsSs w (l.getD k x0).sa (l.getD k x0).ss := hxx.t.s
   have HSL : Hid (IsSs w (l.getD k x0).sa (l.getD k x0).ss) := hsl
   subst ela exa
   have c0 := ext_cell hB.out c0
   have c1 := ext_cell hB.out c1
   have c2 := ext_cell hB.out c2
   have d0 := ext_cell (grow_alloc hB.out (.cells #[.slice (l.getD k x0).ra (l.getD k x0).rs.length (l.getD k x0).rc, .slice (l.getD k x0).ga (l.getD k x0).gs.length (l.getD k x0).gc, .slice (l.getD k x0).sa (l.getD k x0).ss.length (l.getD k x0).sc] 61)) d0
   have u2 : (wr.alloc (.cells #[.slice (l.getD k x0).ra (l.getD k x0).rs.length (l.getD k x0).rc, .slice (l.getD k x0).ga (l.getD k x0).gs.length (l.getD k x0).gc, .slice (l.getD k x0).sa (l.getD k x0).ss.length (l.getD k x0).sc] 61)).cell? ⟨wr.heap.size, 2, none⟩ = some (.slice (l.getD k x0).sa (l.getD k x0).ss.length (l.getD k x0).sc) := at_new _ _ 61 _ 2 _ rfl rfl
   have hB2 : Hid (Below w.heap.size w (wr.alloc (.cells #[.slice (l.getD k x0).ra (l.getD k x0).rs.length (l.getD k x0).rc, .slice (l.getD k x0).ga (l.getD k x0).gs.length (l.getD k x0).gc, .slice (l.getD k x0).sa (l.getD k x0).ss.length (l.getD k x0).sc] 61))) := grow_alloc hB.out _
   have hown2 : Hid ((wr.alloc (.cells #[.slice (l.getD k x0).ra (l.getD k x0).rs.length (l.getD k x0).rc, .slice (l.getD k x0).ga (l.getD k x0).gs.length (l.getD k x0).gc, .slice (l.getD k x0).sa (l.getD k x0).ss.length (l.getD k x0).sc] 61)).ownsMap Tryz.prog 3 (plainElem (H := Unit) Tryz.prog 3) w.heap.size m D) := hown.out.alloc _
   have i1 : (k : Int) < (n : Int) := by omega
   have i2 : (k : Int) < (R.length : Int) := by omega
   have HON : Hid ((R.getD k (false, [])).1 = true → ∀ key, lB R l key (k + 1) = lC R l key k (l.getD k x0).ss.length) := fun h key => lC_all R l key k h
   have HOFF : Hid ((R.getD k (false, [])).1 = false → ∀ key, lB R l key (k + 1) = lB R l key k) := fun h key => lB_off R l key k h
   have HC0 : Hid (∀ key, lC R l key k 0 = lB R l key k) := fun key => lC_zero R l key k
   have HCS : Hid (∀ key j, j < (l.getD k x0).ss.length → lC R l key k (j + 1) = if key = ((l.getD k x0).ss.getD j s0).key then ((k : Nat) : Int) else lC R l key k j) := fun key j hj => lC_step R l key k j hj
   clear hb hb' hxx hkeys hsl d1 hown hB
   generalize (R.getD k (false, [])).1 = dn at *
   generalize hX : l.getD k x0 = X at *
   obtain ⟨ra, ga, ta, rc, gc, tc, rs, gs, ss⟩ := X
   simp only at c0 c1 c2 u2 hs3
   go_upto_region 5 with fail
   clear c0 c1 c2
   generalize (wr.alloc (.cells #[.slice ra rs.length rc, .slice ga gs.length gc, .slice ta ss.length tc] 61)) = V at *
   generalize wr.heap.size = vb at *
   cases dn with
   | false =>
    have L2 : Hid (LastIs D (fun key => lB R l key (k + 1))) := hlast.out.of_eq (HOFF.out rfl)
    clear HON HOFF HC0 HCS hlast
    go_wp2
    go_roundw
    case rel => exact ⟨k + 1, by omega, by go_num, ⟨m, D, by omega, hown2, L2⟩, hB2⟩
    case measure => simp [intOf]; omega
   | true =>
    have L0 : Hid (LastIs D (fun key => lC R l key k 0)) := hlast.out.of_eq (HC0.out)
    have HON2 : Hid (∀ key, lB R l key (k + 1) = lC R l key k ss.length) := HON.out rfl
    clear HON HOFF HC0 hlast
    go_wp2
    clear u2 d0
    go_loopw [27] (fun i wq => ∃ j : Nat, j ≤ ss.length ∧ i = .int .i64 j ∧ (∃ (m : Nat) (D : DataW Unit), m ≤ 3 * k + j ∧ Hid (wq.ownsMap Tryz.prog 3 (plainElem (H := Unit) Tryz.prog 3) w.heap.size m D) ∧ Hid (LastIs D (fun key => lC R l key k j))) ∧ Hid (Below w.heap.size w wq)) (fun i _ => ss.length - (intOf i).toNat)
    case atStart => exact ⟨0, Nat.zero_le _, rfl, ⟨m, D, by omega, hown2, L0⟩, hB2⟩
    case round =>
     clear hown2 L0 hB2
     obtain ⟨j, hj, rfl, ⟨m, D, hm, hown, hlast⟩, hB⟩ := hrel
     by_cases hltj : j < ss.length
     ·obtain ⟨b2, off2, esa, _, s0', s1', s2', s3', s4', s5'⟩ := HSL.out j hltj
      obtain ⟨kl, kh⟩ := HKEYS.out j hltj
      have esa' : ta = some ⟨b2, off2, none⟩ := esa
      subst esa'
      have s0' := ext_cell hB.out s0'
      have s1' := ext_cell hB.out s1'
      have s2' := ext_cell hB.out s2'
      have s3' := ext_cell hB.out s3'
      have s4' := ext_cell hB.out s4'
      have s5' := ext_cell hB.out s5'
      have HST : Hid (∀ key, lC R l key k (j + 1) = if key = (ss.getD j s0).key then ((k : Nat) : Int) else lC R l key k j) := fun key => HCS.out key j hltj
      generalize ss.getD j s0 = z at *
      obtain ⟨zk, zo, zak, zan, zbk, zbn⟩ := z
      simp only at s0' s1' s2' s3' s4' s5' kl kh HST
      have i3 : (j : Int) < (ss.length : Int) := by omega
      have hkey : keyOf Tryz.prog 3 (.int .i64 zk) = some (.int .i64 zk) := Maps.keyOf_int_mk Tryz.underlying3 (WalkArith.wf_i64 (by omega))
      have hown3 : (wr.alloc (.cells #[.int .i64 zk, .int .i64 zo, .int .i64 zak, .int .i64 zan, .int .i64 zbk, .int .i64 zbn] 106)).ownsMap Tryz.prog 3 (plainElem (H := Unit) Tryz.prog 3) w.heap.size m D := hown.out.alloc _
      have q0 : (wr.alloc (.cells #[.int .i64 zk, .int .i64 zo, .int .i64 zak, .int .i64 zan, .int .i64 zbk, .int .i64 zbn] 106)).cell? ⟨wr.heap.size, 0, none⟩ = some (.int .i64 zk) := at_new _ _ 106 _ 0 _ rfl rfl
      have hB3 : Hid (Below w.heap.size w (wr.alloc (.cells #[.int .i64 zk, .int .i64 zo, .int .i64 zak, .int .i64 zan, .int .i64 zbk, .int .i64 zbn] 106))) := grow_alloc hB.out _
      have L1 := (hlast.out.put hown.out.isMap zk k).of_eq (g := fun key => lC R l key k (j + 1)) HST.out
      have HL1 : Hid (LastIs (D.put (.int .i64 zk) (.lit (.int .i64 (k : Nat)))) (fun key => lC R l key k (j + 1))) := L1
      clear hown hB hlast HST L1 esa
      go_upto_region 9 with fail
      clear s0' s1' s2' s3' s4' s5'
      generalize (wr.alloc (.cells #[.int .i64 zk, .int .i64 zo, .int .i64 zak, .int .i64 zan, .int .i64 zbk, .int .i64 zbn] 106)) = U at *
      go_wp2_with (first
       | (at_mapUpdate; refine wpList_mapUpdate_own _ rfl _ _ _ 117 rfl 3 3 law3 Tryz.underlying117 _ w.heap.size m D rfl hown3 (by unfold maxLen; omega) _ _ _ rfl rfl hkey _ [] (plainElem_int Tryz.underlying3 (WalkArith.wf_i64 (by omega))) ?_; intro w5 hown5 hgrow5)
       | go_in)
      have hB5 : Hid (Below w.heap.size w w5) := hB3.out.grown hgrow5 hB3.out.size (fun j hj => by cases hj; exact Nat.le_refl _)
      have hown6 : Hid (w5.ownsMap Tryz.prog 3 (plainElem (H := Unit) Tryz.prog 3) w.heap.size (m + 1) (D.put (.int .i64 zk) (.lit (.int .i64 (k : Nat))))) := hown5
      clear hown5 hgrow5 hown3 hB3 q0 hkey
      go_roundw
      case rel => exact ⟨j + 1, by omega, by go_num, ⟨m + 1, _, by omega, hown6, HL1⟩, hB5⟩
      case measure => simp [intOf]; omega
     ·have hjj : j = ss.length := by omega
      have i3 : ¬ (j : Int) < (ss.length : Int) := by omega
      have L2 : Hid (LastIs D (fun key => lB R l key (k + 1))) := hlast.out.of_eq (fun key => by rw [HON2.out key, hjj])
      have hm2 : m ≤ 3 * (k + 1) := by omega
      clear hjj hltj hlast
      go_wp2
      go_roundw
      case rel => exact ⟨k + 1, by omega, by go_num, ⟨m, D, hm2, hown, L2⟩, hB⟩
      case measure => simp [intOf]; omega
  ·have hkk : k = n := by omega
   subst hkk
   have i1 : ¬ (k : Int) < (k : Int) := by omega
   go_wp2
   go_ret
   exact ⟨rfl, ⟨m, D, hown.out, hlast.out⟩, hB.out⟩
end Go.Proofs.YtcgpkonfneofdaaGreat
namespace Go.Proofs.YtcgpkonfneofdaaGreat
open Go.RowKit Go.Maps
variable (za : Option Addr) (zc : Nat) (keys : List Int)
set_option maxHeartbeats 2000000 in
theorem readFrom_any (B m : Nat) (D : DataW Unit) (f : Int → Int) (w : World) (hown : w.ownsMap Tryz.prog 3 (plainElem (H := Unit) Tryz.prog 3) B m D) (hB : B < w.heap.size) (hlast : LastIs D f) (hz : IsInts w za keys) (h4 : keys.length ≤ 100) (hw : ∀ k, k < keys.length → (Lit.int .i64 (keys.getD k 0)).wf = true) :
  Calls Tryz.prog 59 #[.map (some B), .slice za keys.length zc] w fun e w' => ∃ a c, e = .returned (.slice a keys.length c) ∧ IsAt w.heap.size w'.heap.size w' a (keys.map f) ∧ Below w.heap.size w w' := by
 obtain ⟨i0, hi, hz0, hz1, hz2⟩ := info_parts Tryz.info3
 have HZ : Hid (IsInts w za keys) := hz
 have HLAST : Hid (LastIs D f) := hlast
 have HW : Hid (∀ k, k < keys.length → (Lit.int .i64 (keys.getD k 0)).wf = true) := hw
 have HOWN : Hid (w.ownsMap Tryz.prog 3 (plainElem (H := Unit) Tryz.prog 3) B m D) := hown
 have HBW : Hid (B < w.heap.size) := hB
 have HML : Hid ((keys.map f).length = keys.length) := by show _ = _; simp
 clear hz hlast hw hown hB
 go_enter Tryz.func59, Tryz.ntmps59
 go_wp2
 go_loopw [5, 12] (fun v i wr => ∃ k : Nat, k ≤ keys.length ∧ i = .int .i64 k ∧ Hid (wr.ownsRow w.heap.size 3 1 v k (((keys.map f).take k).map (Value.int .i64))) ∧ Hid (wr.ownsMap Tryz.prog 3 (plainElem (H := Unit) Tryz.prog 3) B m D) ∧ Hid (Below w.heap.size w wr)) (fun _ i _ => keys.length - (intOf i).toNat)
 case atStart => exact ⟨0, Nat.zero_le _, rfl, World.ownsRow_nil _ _ _ _, HOWN, Below.refl _ _⟩
 case round =>
  obtain ⟨k, hk, rfl, hrow, hmap, hB⟩ := hrel
  by_cases hlt : k < keys.length
  ·obtain ⟨b, off, ea, _, d⟩ := HZ.out k hlt
   have hBW := HBW.out
   subst ea
   have d := ext_cell hB.out d
   have hwf := HW.out k hlt
   have hLs := HLAST.out (keys.getD k 0)
   have HST : Hid ((keys.map f).take (k + 1) = (keys.map f).take k ++ [f (keys.getD k 0)]) := by
    have e : (keys.map f)[k]? = some (f (keys.getD k 0)) := by simp [List.getD, hlt]
    show _ = _
    rw [List.take_add_one, e]
    rfl
   have hkey : keyOf Tryz.prog 3 (.int .i64 (keys.getD k 0)) = some (.int .i64 (keys.getD k 0)) := Maps.keyOf_int_mk Tryz.underlying3 hwf
   have i1 : (k : Int) < (keys.length : Int) := by omega
   have hsz := hB.out.size
   generalize keys.getD k 0 = x at *
   by_cases hf : f x = -1
   ·have hhas : Maps.has D (.int .i64 x) = false := by rw [hLs.1]; simp [hf]
    have HF : Hid (f x = -1) := hf
    clear hLs hf
    go_wp2_with (first
      | (at_lookup; refine wpList_lookup_own_ok_int _ rfl _ _ 117 rfl 3 3 .i64 law3 Tryz.underlying117 Tryz.underlying3 (zero3 _) B m D rfl hmap.out _ _ rfl hkey ?_; intro c hat hwc)
      | (at_builtin; refine wpList_append_own _ rfl _ _ 25 rfl w.heap.size 3 i0 (.int .i64 0) 1 8 Tryz.underlying25 hi hz0 hz1 hz2 rfl (by decide) _ _ _ rfl (hrow.out.alloc _) _ 1 1 [.int .i64 (-1)] rfl rfl (cell_one_new _ _ _) (ints_oneCell .i64 [(-1)]) (by unfold maxLen; omega) (by omega) (by simp; omega) ?_; intro v' w5 hown' hgrow _)
      | go_in)
    have n1 : Hid (w5.ownsRow w.heap.size 3 1 v' (k + 1) (((keys.map f).take (k + 1)).map (Value.int .i64))) := by
      rw [HF.out] at HST
      show World.ownsRow _ _ _ _ _ _ _
      rw [HST.out, List.map_append]
      exact hown'
    have hrows : Hid (∀ j, u5.ownBlock = some j → w.heap.size ≤ j) := fun j hj => (hrow.out.lt j hj).1
    have n2 : Hid (w5.ownsMap Tryz.prog 3 (plainElem (H := Unit) Tryz.prog 3) B m D) := (hmap.out.alloc _).kept hgrow (fun e => by have := hrows.out B e.symm; omega)
    have n3 : Hid (Below w.heap.size w w5) := (grow_alloc hB.out _).grown hgrow (Nat.le_trans hB.out.size (by simp)) (fun j e => hrows.out j e)
    clear hgrow hown' hrow hmap hB hrows
    go_wp2
    go_roundw
    case rel => exact ⟨k + 1, by omega, by go_num, n1, n2, n3⟩
    case measure => simp [intOf]; omega
   ·have hhas : Maps.has D (.int .i64 x) = true := by rw [hLs.1]; simp [hf]
    have HAT : Hid (D.atKey (.int .i64 x) (.lit (.int .i64 0)) = .lit (.int .i64 (f x))) := hLs.2 hf
    clear hLs hf
    go_wp2_with (first
      | (at_lookup; refine wpList_lookup_own_ok_int _ rfl _ _ 117 rfl 3 3 .i64 law3 Tryz.underlying117 Tryz.underlying3 (zero3 _) B m D rfl hmap.out _ _ rfl hkey ?_; intro c hat hwc)
      | (at_builtin; refine wpList_append_own _ rfl _ _ 25 rfl w.heap.size 3 i0 (.int .i64 0) 1 8 Tryz.underlying25 hi hz0 hz1 hz2 rfl (by decide) _ _ _ rfl (hrow.out.alloc _) _ 1 1 [.int .i64 c] rfl rfl (cell_one_new _ _ _) (ints_oneCell .i64 [c]) (by unfold maxLen; omega) (by omega) (by simp; omega) ?_; intro v' w5 hown' hgrow _)
      | go_in)
    have n1 : Hid (w5.ownsRow w.heap.size 3 1 v' (k + 1) (((keys.map f).take (k + 1)).map (Value.int .i64))) := by
      have hc : c = f x := by have h := hat.symm.trans HAT.out; injection h with h; injection h
      rw [← hc] at HST
      show World.ownsRow _ _ _ _ _ _ _
      rw [HST.out, List.map_append]
      exact hown'
    have hrows : Hid (∀ j, u5.ownBlock = some j → w.heap.size ≤ j) := fun j hj => (hrow.out.lt j hj).1
    have n2 : Hid (w5.ownsMap Tryz.prog 3 (plainElem (H := Unit) Tryz.prog 3) B m D) := (hmap.out.alloc _).kept hgrow (fun e => by have := hrows.out B e.symm; omega)
    have n3 : Hid (Below w.heap.size w w5) := (grow_alloc hB.out _).grown hgrow (Nat.le_trans hB.out.size (by simp)) (fun j e => hrows.out j e)
    clear hgrow hown' hrow hmap hB hrows
    go_wp2
    go_roundw
    case rel => exact ⟨k + 1, by omega, by go_num, n1, n2, n3⟩
    case measure => simp [intOf]; omega
  ·have hkk : k = keys.length := by omega
   have i1 : ¬ (k : Int) < (keys.length : Int) := by omega
   have hr := hrow.out
   rw [hkk, List.take_of_length_le (by rw [HML.out]; exact Nat.le_refl _)] at hr
   obtain ⟨a, c, hv, ha⟩ := at_of_owns hr
   rw [HML.out] at hv
   subst hv
   have HA : Hid (IsAt w.heap.size wr.heap.size wr a (keys.map f)) := ha
   clear hkk hr ha hrow hlt
   go_wp2
   go_ret
   exact ⟨a, ⟨c, rfl⟩, HA.out, hB.out⟩
end Go.Proofs.YtcgpkonfneofdaaGreat
