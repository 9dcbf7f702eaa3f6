/-
  Proved: for every store, list of transactions and numbers the law StoreTrue returns true: some, and then others, are all of them; what nobody sets stays; the arguments read afterwards as they read before.
  Conditions: none.
-/
import Derived.Test.YtfogphljilgogaaStoreM
import Derived.Test.YtfogphljilgogaaStoreSerials
import Derived.WalkKit
import Derived.WalkSpells
import Derived.WalkLawsBesides
import Derived.ProofKit
import Derived.OpenShut
import Derived.ChangeOld
import Derived.Deep.Slices
import Derived.Deep.Strs
import Derived.Deep.RegionHeld3
import Derived.BigQuiet
import Derived.Lib.SmallJoins
namespace Go.Proofs.Ytfogphljilgogaa
open Go.ChangeShapes Go.WideShapes Go.ChangeAt Go.RowKit Go.Deep


variable (sa la : Option Addr) (sc lc : Nat) (s : List Int) (l : List TxA) (n key : Int)

set_option maxRecDepth 100000 in
set_option maxHeartbeats 2000000 in
theorem storeTrue_bad (w : World) (hs : IsInts w sa s) (hl : IsTxs w la l) (hE : ¬ serE s l = 0) :
    Calls Try.prog 5 #[.slice sa s.length sc, .slice la l.length lc, .int .i64 n, .int .i64 key] w fun e w' => e = .returned (.bool true) ∧ Below w.heap.size w w' := by
  have HS : Hid (IsInts w sa s) := hs
  have HL : Hid (IsTxs w la l) := hl
  have hb' : (serE s l != 0) = true := by simpa using hE
  clear hs hl hE
  go_enter Try.func5, Try.ntmps5
  go_wp2_with fail
  refine (serial_any sa la sc lc s l _ HS.out HL.out).mono ?_
  rintro e w1 ⟨ea, ec, xa, xc, rfl, hso, hb1⟩
  go_wp2_with fail
  refine (storeBegun_any _).mono ?_
  rintro e w2 ⟨rfl, hb2⟩
  have B2 : Below w.heap.size w w2 := grow_trans hb1 hb2
  clear hso hb1 hb2
  go_wp2
  go_ret
  exact ⟨rfl, B2⟩

theorem keys_far (ss : List St) (i : Nat) (D : Bool) (hr : rangeE (keysOf ss) = 0) (h : ∀ t, t < ss.length → ¬ ((ss.getD t s0).key = (i : Int) ∧ D = true)) (hd : D = true) : ∀ z ∈ keysOf ss, z.toNat ≠ i := fun z hz e => by
  have hz0 := rangeE_in _ hr _ hz
  obtain ⟨g, hg, rfl⟩ := List.mem_map.1 hz
  obtain ⟨t, ht, rfl⟩ := List.mem_iff_getElem.1 hg
  refine h t ht ⟨?_, hd⟩
  have e3 : ss.getD t s0 = ss[t] := by simp [List.getD, ht]
  rw [e3]
  omega

theorem same8 (a a' : Option Addr) (c c' : Nat) (E : List Int) (h8 : E.length = 8) : ∀ w', IsInts w' a E → IsInts w' a' E → Calls Try.prog 16 #[.slice a 8 c, .slice a' 8 c'] w' fun e w'' => e = .returned (.bool true) ∧ Below w'.heap.size w' w'' := fun w' q1 q2 => by
  have h := sameInts_any E E a a' c c' w' (by rw [h8]; decide) q1 q2
  rw [h8] at h
  exact h.mono fun e w'' ⟨h1, h2⟩ => ⟨by rw [h1]; simp, h2⟩

theorem res_parts (s : List Int) (l : List TxA) (k : Nat) (hK : (l.take k).length = k) : (serRes s l).take k = serRes s (l.take k) ∧ (serRes s l).drop k = serRes (serEnd s (l.take k)) (l.drop k) := by
  have h := serRes_app (l.take k) (l.drop k) s
  rw [List.take_append_drop] at h
  have h2 : (serRes s (l.take k)).length = k := by rw [serRes_len]; exact hK
  rw [h]
  exact ⟨List.take_left' h2, List.drop_left' h2⟩
theorem res_vals {s : List Int} {l : List TxA} (hE : serE s l = 0) : ∀ r ∈ serRes s l, r.2.length ≤ 100 := by
  have h := sRes_vals s l
  have e : sRes s l = serRes s l := if_pos hE
  rw [e] at h
  exact h

theorem sameTake (s : List Int) (l : List TxA) (k : Nat) (a a' : Option Addr) (hE : serE s l = 0) (hK : (l.take k).length = k) : ∀ w' c1 c2, IsRes w' a (serRes s l) → IsRes w' a' (serRes s (l.take k)) → Calls Try.prog 19 #[.slice a k c1, .slice a' k c2] w' fun e w'' => e = .returned (.bool true) ∧ Below w'.heap.size w' w'' := fun w' c1 c2 q1 q2 => by
  have q3 := isRes_take q1 k
  have hRk := (res_parts s l k hK).1
  rw [hRk] at q3
  have h2 : (serRes s (l.take k)).length = k := by rw [serRes_len]; exact hK
  have hl8 := chkL_len (serE_zero hE).2
  have hk8 : k ≤ l.length := by rw [List.length_take] at hK; omega
  have h := sameResults_eq (serRes s (l.take k)) a a' c1 c2 w' (by omega) (fun r hr => res_vals hE r (by rw [← hRk] at hr; exact List.mem_of_mem_take hr)) q3 q2
  rw [h2] at h
  exact h

theorem sameDrop (s : List Int) (l : List TxA) (k : Nat) (a' : Option Addr) (hE : serE s l = 0) (hK : (l.take k).length = k) : ∀ w' a c1 c2, IsRes w' a ((serRes s l).drop k) → IsRes w' a' (serRes (serEnd s (l.take k)) (l.drop k)) → Calls Try.prog 19 #[.slice a (l.length - k) c1, .slice a' (l.length - k) c2] w' fun e w'' => e = .returned (.bool true) ∧ Below w'.heap.size w' w'' := fun w' a c1 c2 q1 q2 => by
  have hRd := (res_parts s l k hK).2
  rw [hRd] at q1
  have h2 : (serRes (serEnd s (l.take k)) (l.drop k)).length = l.length - k := by rw [serRes_len, List.length_drop]
  have hl8 := chkL_len (serE_zero hE).2
  have h := sameResults_eq (serRes (serEnd s (l.take k)) (l.drop k)) a a' c1 c2 w' (by omega) (fun r hr => res_vals hE r (by rw [← hRd] at hr; exact List.mem_of_mem_drop hr)) q1 q2
  rw [h2] at h
  exact h

set_option maxRecDepth 100000 in
set_option maxHeartbeats 1000000 in
theorem storeTrue_ok (b off : Nat) (w : World) (hs : IsInts w sa s) (hl : IsTxs w (some ⟨b, off, none⟩) l) (hne : 0 < l.length) (hlc : l.length ≤ lc) (hn : (Lit.int .i64 n).wf = true) (hkey : (Lit.int .i64 key).wf = true) (hE : serE s l = 0) :
    Calls Try.prog 5 #[.slice sa s.length sc, .slice (some ⟨b, off, none⟩) l.length lc, .int .i64 n, .int .i64 key] w fun e w' => e = .returned (.bool true) ∧ Below w.heap.size w w' := by
  obtain ⟨h8, hC⟩ := serE_zero hE
  have hl8 := chkL_len hC
  have HS : Hid (IsInts w sa s) := hs
  have HL : Hid (IsTxs w (some ⟨b, off, none⟩) l) := hl
  have H1 : Hid (sEnd s l = serEnd s l) := if_pos hE
  have H2 : Hid (sRes s l = serRes s l) := if_pos hE
  have H3 : Hid (serE s l = 0) := hE
  have H8 : Hid (s.length = 8) := h8
  have HRL : Hid ((serRes s l).length = l.length) := serRes_len l s
  have HEL : Hid ((serEnd s l).length = 8) := (serEnd_len l s).trans h8
  have CH : Hid (∀ w', Calls Try.prog 20 #[.int .i64 n, .int .i64 ((l.length : Int) + 1)] w' fun e w'' => ∃ k : Nat, k ≤ l.length ∧ e = .returned (.int .i64 k) ∧ w'' = w') := fun w' => by
    have h := choose_any n (l.length + 1) w' hn (by omega) (by omega)
    refine h.mono ?_
    rintro e w'' ⟨k, hk, h1, h2⟩
    exact ⟨k, by omega, h1, h2⟩
  have CK : Hid (∀ w', Calls Try.prog 20 #[.int .i64 key, .int .i64 8] w' fun e w'' => ∃ k : Nat, k < 8 ∧ e = .returned (.int .i64 k) ∧ w'' = w') := fun w' => choose_any key 8 w' hkey (by omega) (by omega)
  clear hs hl hE h8 hC hn hkey
  go_enter Try.func5, Try.ntmps5
  go_wp2_with fail
  refine (serial_any sa _ sc lc s l _ HS.out HL.out).mono ?_
  rintro e w1 ⟨ea, ec, xa, xc, rfl, hso, hb1⟩
  rw [H1.out, H2.out] at hso ⊢
  rw [H3.out]
  obtain ⟨xb, rfl, hxc⟩ : ∃ xb, xa = some ⟨xb, 0, none⟩ ∧ (serRes s l).length ≤ xc := by
    rcases hso.form with ⟨_, _, h⟩ | h
    · have := HRL.out; rw [h] at this; simp at this; omega
    · exact h
  have hE1 : Hid (IsInts w1 ea (serEnd s l)) := hso.ints
  have hR1 : Hid (IsRes w1 (some ⟨xb, 0, none⟩) (serRes s l)) := hso.res
  rw [HRL.out] at hxc ⊢
  rw [HEL.out]
  clear hso
  go_wp2_with fail
  refine (CH.out _).mono ?_
  rintro e w' ⟨k, hk, rfl, hw'⟩
  rw [hw']
  clear hw' w'
  have HK : Hid ((l.take k).length = k) := by show _ = _; rw [List.length_take]; omega
  have HD : Hid ((l.drop k).length = l.length - k) := by show _ = _; rw [List.length_drop]
  have HE2 : Hid (serE s (l.take k) = 0) := serE_part H3.out (l.take k) (fun x hx => List.mem_of_mem_take hx) (by rw [List.length_take]; omega) s rfl
  have HL2 : Hid ((serEnd s (l.take k)).length = 8) := (serEnd_len _ s).trans H8.out
  have HE3 : Hid (serE (serEnd s (l.take k)) (l.drop k) = 0) := serE_part H3.out (l.drop k) (fun x hx => List.mem_of_mem_drop hx) (by rw [List.length_drop]; omega) _ (serEnd_len _ s)
  have C2 : Hid (∀ w', IsInts w' sa s → IsTxs w' (some ⟨b, off, none⟩) (l.take k) → Calls Try.prog 17 #[.slice sa s.length sc, .slice (some ⟨b, off, none⟩) k lc] w' fun e w'' => ∃ ea ec xa xc, e = .returned (.tuple #[.slice ea 8 ec, .slice xa k xc, .int .i64 0]) ∧ SO w'.heap.size w'' ea ec xa xc (serEnd s (l.take k)) (serRes s (l.take k)) ∧ Below w'.heap.size w' w'') := fun w' q1 q2 => by
    have h := serial_any sa (some ⟨b, off, none⟩) sc lc s (l.take k) w' q1 q2
    have e1 : sEnd s (l.take k) = serEnd s (l.take k) := if_pos HE2.out
    have e2 : sRes s (l.take k) = serRes s (l.take k) := if_pos HE2.out
    rw [e1, e2, HE2.out, HL2.out, serRes_len, HK.out] at h
    exact h
  have C3 : Hid (∀ w' eb ebc qa lcx, IsInts w' eb (serEnd s (l.take k)) → IsTxs w' qa (l.drop k) → Calls Try.prog 17 #[.slice eb 8 ebc, .slice qa (l.length - k) lcx] w' fun e w'' => ∃ ea ec xa xc, e = .returned (.tuple #[.slice ea 8 ec, .slice xa (l.length - k) xc, .int .i64 0]) ∧ SO w'.heap.size w'' ea ec xa xc (serEnd s l) (serRes (serEnd s (l.take k)) (l.drop k)) ∧ Below w'.heap.size w' w'') := fun w' eb ebc qa lcx q1 q2 => by
    have h := serial_any eb qa ebc lcx (serEnd s (l.take k)) (l.drop k) w' q1 q2
    have e0 : serEnd (serEnd s (l.take k)) (l.drop k) = serEnd s l := by rw [← serEnd_app, List.take_append_drop]
    have e1 : sEnd (serEnd s (l.take k)) (l.drop k) = serEnd s l := (if_pos HE3.out).trans e0
    have e2 : sRes (serEnd s (l.take k)) (l.drop k) = serRes (serEnd s (l.take k)) (l.drop k) := if_pos HE3.out
    rw [e1, e2, HE3.out, HEL.out, serRes_len, HD.out, HL2.out] at h
    exact h
  go_wp2_with fail
  refine (C2.out _ (HS.out.below hb1) (isTxs_take (HL.out.below hb1) k)).mono ?_
  rintro e w2 ⟨eb, ebc, xa2, xc2, rfl, hso2, hb2⟩
  have hE2 : Hid (IsInts w2 eb (serEnd s (l.take k))) := hso2.ints
  have hR2 : Hid (IsRes w2 xa2 (serRes s (l.take k))) := hso2.res
  clear hso2
  go_wp2_with fail
  all_goals (
    refine (C3.out _ eb ebc _ _ hE2.out (by first | exact isTxs_drop (HL.out.below (grow_trans hb1 hb2)) k | exact fun i hi => absurd hi (by rw [List.length_drop]; omega))).mono ?_
    rintro e w3 ⟨ec3, ecc3, xa3, xc3, rfl, hso3, hb3⟩
    have hE3 : Hid (IsInts w3 ec3 (serEnd s l)) := hso3.ints
    have hR3 : Hid (IsRes w3 xa3 (serRes (serEnd s (l.take k)) (l.drop k))) := hso3.res
    have hE1' : Hid (IsInts w3 ea (serEnd s l)) := (hE1.out.below hb2).below hb3
    have hR1' : Hid (IsRes w3 (some ⟨xb, 0, none⟩) (serRes s l)) := (hR1.out.below hb2).below hb3
    have hR2' : Hid (IsRes w3 xa2 (serRes s (l.take k))) := hR2.out.below hb3
    have B3 : Hid (Below w.heap.size w w3) := grow_trans hb1 (grow_trans hb2 hb3)
    clear hso3 hb1 hb2 hb3 hE1 hR1 hE2 hR2 C2 C3 CH
    have SI : Hid (∀ w', IsInts w' ea (serEnd s l) → IsInts w' ec3 (serEnd s l) → Calls Try.prog 16 #[.slice ea 8 ec, .slice ec3 8 ecc3] w' fun e w'' => e = .returned (.bool true) ∧ Below w'.heap.size w' w'') := same8 ea ec3 ec ecc3 (serEnd s l) HEL.out
    have SR1 : Hid (∀ w' c1 c2, IsRes w' (some ⟨xb, 0, none⟩) (serRes s l) → IsRes w' xa2 (serRes s (l.take k)) → Calls Try.prog 19 #[.slice (some ⟨xb, 0, none⟩) k c1, .slice xa2 k c2] w' fun e w'' => e = .returned (.bool true) ∧ Below w'.heap.size w' w'') := sameTake s l k (some ⟨xb, 0, none⟩) xa2 H3.out HK.out
    have SR2 : Hid (∀ w' qa c1 c2, IsRes w' qa ((serRes s l).drop k) → IsRes w' xa3 (serRes (serEnd s (l.take k)) (l.drop k)) → Calls Try.prog 19 #[.slice qa (l.length - k) c1, .slice xa3 (l.length - k) c2] w' fun e w'' => e = .returned (.bool true) ∧ Below w'.heap.size w' w'') := sameDrop s l k xa3 H3.out HK.out
    have hst : Hid (∀ i, (∀ k, k < l.length → ((serRes s l).getD k (false, [])).1 = true → ∀ z ∈ keysOf (l.getD k x0).ss, z.toNat ≠ i) → (serEnd s l).getD i 0 = s.getD i 0) := fun i h => serEnd_stays l s i h
    have hb8 : ((s.length : Int) != 8) = false := by have := H8.out; simp; omega
    generalize serEnd s (l.take k) = Em at *
    generalize serRes s (l.take k) = R1 at *
    generalize serRes Em (l.drop k) = R2 at *
    generalize serEnd s l = E at *
    generalize serRes s l = R at *
    have HRG : Hid (∀ j, j < l.length → rangeE (keysOf (l.getD j x0).ss) = 0) := fun j hj => (chk_ranges (chkL_at (serE_zero H3.out).2 j hj)).2
    clear H1 H2 H3 HE2 HL2 HE3
    have hsum : (k : Int) + ((l.length - k : Nat) : Int) = (l.length : Int) := by omega
    go_wp2_with fail
    refine (SI.out _ hE1'.out hE3.out).mono ?_
    rintro e w4 ⟨rfl, hb4⟩
    go_wp2_with fail
    refine (SR1.out _ _ _ (hR1'.out.below hb4) (hR2'.out.below hb4)).mono ?_
    rintro e w5 ⟨rfl, hb5⟩
    go_wp2_with fail
    all_goals (
      refine (SR2.out _ _ _ _ (by first | simpa using isRes_drop (hR1'.out.below (grow_trans hb4 hb5)) k | exact fun i hi => absurd hi (by rw [List.length_drop, HRL.out]; omega)) (hR3.out.below (grow_trans hb4 hb5))).mono ?_
      rintro e w6 ⟨rfl, hb6⟩
      go_wp2_with fail
      refine (CK.out _).mono ?_
      rintro e w' ⟨i, hi, rfl, hw'⟩
      rw [hw']
      clear hw' w'
      have B6 : Hid (Below w.heap.size w w6) := grow_trans B3.out (grow_trans hb4 (grow_trans hb5 hb6))
      have hR6 : Hid (IsRes w6 (some ⟨xb, 0, none⟩) R) := hR1'.out.below (grow_trans hb4 (grow_trans hb5 hb6))
      have hE6 : Hid (IsInts w6 ea E) := hE1'.out.below (grow_trans hb4 (grow_trans hb5 hb6))
      clear hb4 hb5 hb6 hR1' hR2' hE1' hE3 hR3 B3 SI SR1 SR2 CK hsum
      go_wp2
      go_loopw [20, 21] (fun x _ wr => ∃ kx : Nat, kx ≤ l.length ∧ x = .int .i64 kx ∧ Hid (∀ j, j < kx → (R.getD j (false, [])).1 = true → ∀ z ∈ keysOf (l.getD j x0).ss, z.toNat ≠ i) ∧ Hid (Below w6.heap.size w6 wr)) (fun x _ _ => l.length - (intOf x).toNat)
      case atStart => exact ⟨0, Nat.zero_le _, rfl, fun j hj => absurd hj (by omega), Below.refl _ _⟩
      case round =>
        obtain ⟨kx, hkx, rfl, hno, hnx⟩ := hrel
        by_cases hlt : kx < l.length
        · obtain ⟨b', off', hab, hb', _, _, c2, hx⟩ := HL.out kx hlt
          injection hab with hab
          injection hab with e1 e2 _
          subst e1 e2
          obtain ⟨rb, roff, va, vc, hra, _, r0, _, _⟩ := hR6.out kx (by rw [HRL.out]; exact hlt)
          injection hra with hra
          injection hra with e1 e2 _
          subst e1 e2
          have d2 : wr.cell? ⟨b, off + kx * 3 + 2, none⟩ = some (.slice (l.getD kx x0).sa (l.getD kx x0).ss.length (l.getD kx x0).sc) := ext_cell hnx.out (ext_cell B6.out c2)
          have t0 : wr.cell? ⟨xb, kx * 2, none⟩ = some (.bool (R.getD kx (false, [])).1) := ext_cell hnx.out (by simpa using r0)
          have hss : Hid (IsSs wr (l.getD kx x0).sa (l.getD kx x0).ss) := hx.t.s.below (grow_trans B6.out hnx.out)
          have hls : (l.getD kx x0).ss.length ≤ maxLen := hx.t.ls
          have hrg := HRG.out kx hlt
          have HN : Hid ((∀ t, t < (l.getD kx x0).ss.length → ¬ (((l.getD kx x0).ss.getD t s0).key = (i : Int) ∧ (R.getD kx (false, [])).1 = true)) → ∀ j, j < kx + 1 → (R.getD j (false, [])).1 = true → ∀ z ∈ keysOf (l.getD j x0).ss, z.toNat ≠ i) := fun h j hj hd z hz => by
            by_cases hjk : j < kx
            · exact hno.out j hjk hd z hz
            · have hjk' : j = kx := by omega
              subst hjk'
              exact keys_far _ i _ hrg h hd z hz
          clear c2 hx r0 hno hrg
          generalize l.getD kx x0 = x at *
          obtain ⟨ra, ga, ta, rc, gc, tc, rs, gs, ss⟩ := x
          generalize (R.getD kx (false, [])).1 = D at *
          simp only at d2 hls
          unfold maxLen at hls
          have hkR : (kx : Int) < (l.length : Int) := by omega
          go_wp2
          go_loopw [21] (fun y wq => ∃ ky : Nat, ky ≤ ss.length ∧ y = .int .i64 ky ∧ Hid (∀ t, t < ky → ¬ ((ss.getD t s0).key = (i : Int) ∧ D = true)) ∧ Hid (Below wr.heap.size wr wq)) (fun y _ => ss.length - (intOf y).toNat)
          case atStart => exact ⟨0, Nat.zero_le _, rfl, fun j hj => absurd hj (by omega), Below.refl _ _⟩
          case round =>
            obtain ⟨ky, hky, rfl, hno2, hnx2⟩ := hrel
            have q1 := ext_cell hnx2.out d2
            have q2 := ext_cell hnx2.out t0
            by_cases hlt2 : ky < ss.length
            · obtain ⟨b3, off3, rfl, hb3, k0, _⟩ := hss.out ky hlt2
              have q0 := ext_cell hnx2.out k0
              have HN2 : Hid (¬ ((ss.getD ky s0).key = (i : Int) ∧ D = true) → ∀ t, t < ky + 1 → ¬ ((ss.getD t s0).key = (i : Int) ∧ D = true)) := fun h t ht => by
                by_cases htk : t < ky
                · exact hno2.out t htk
                · have htk' : t = ky := by omega
                  subst htk'
                  exact h
              clear hno2 k0 d2 t0
              generalize (ss.getD ky s0).key = z at *
              by_cases hz : z = (i : Int)
              · have hzb : (z == (i : Int)) = true := by simp [hz]
                cases D with
                | true =>
                  clear HN2 hz
                  go_wp2_with fail
                  refine (storeBegun_any _).mono ?_
                  rintro e w8 ⟨rfl, hb8'⟩
                  have BF : Below w.heap.size w w8 := grow_trans (grow_trans B6.out hnx.out) (grow_trans hnx2.out hb8')
                  clear hb8' q0 q1 q2
                  go_wp2
                  go_ret
                  exact ⟨rfl, BF⟩
                | false =>
                  have HN3 : Hid (∀ t, t < ky + 1 → ¬ ((ss.getD t s0).key = (i : Int) ∧ false = true)) := HN2.out (by simp)
                  clear HN2 hz
                  go_wp2
                  go_roundw
                  case rel => exact ⟨ky + 1, by omega, by go_num, HN3, hnx2⟩
                  case measure => simp [intOf]; omega
              · have hzb : (z == (i : Int)) = false := by simpa using hz
                have HN3 : Hid (∀ t, t < ky + 1 → ¬ ((ss.getD t s0).key = (i : Int) ∧ D = true)) := HN2.out (fun h => hz h.1)
                clear HN2 hz
                go_wp2
                go_roundw
                case rel => exact ⟨ky + 1, by omega, by go_num, HN3, hnx2⟩
                case measure => simp [intOf]; omega
            · have HN3 : Hid (∀ j, j < kx + 1 → (R.getD j (false, [])).1 = true → ∀ z ∈ keysOf (l.getD j x0).ss, z.toNat ≠ i) := HN.out (fun t ht => hno2.out t (by omega))
              have B7 : Hid (Below w6.heap.size w6 wr) := grow_trans hnx.out hnx2.out
              clear hno2 HN d2 t0
              go_wp2
              go_roundw
              case rel => exact ⟨kx + 1, by omega, by go_num, HN3, B7⟩
              case measure => simp [intOf]; omega
        · have hall := hst.out i (fun j hj => hno.out j (by omega))
          obtain ⟨b4, off4, rfl, hb4', k4⟩ := hE6.out i (by rw [HEL.out]; exact hi)
          obtain ⟨b5, off5, rfl, hb5', k5⟩ := HS.out i (by have := H8.out; omega)
          have q4 := ext_cell hnx.out k4
          have q5 := ext_cell hnx.out (ext_cell B6.out k5)
          rw [hall] at q4
          generalize s.getD i 0 = y at *
          have i1 : (0 : Int) ≤ (i : Int) := by omega
          have i2 : (i : Int) < 8 := by omega
          have i3 : (i : Int) < (s.length : Int) := by have := H8.out; omega
          clear k4 k5 hall hst hno hR6 hE6 HRG HL HRL HEL
          have hKS : Hid (∀ w', Below wr.heap.size wr w' → w'.cell? ⟨b4, off4 + i, none⟩ = some (.int .i64 y) ∧ w'.cell? ⟨b5, off5 + i, none⟩ = some (.int .i64 y) ∧ Hid (Below wr.heap.size wr w')) := fun w' h => ⟨ext_cell h q4, ext_cell h q5, h⟩
          go_wp2
          go_region_held3 (fun w' => w'.cell? ⟨b4, off4 + i, none⟩ = some (.int .i64 y) ∧ w'.cell? ⟨b5, off5 + i, none⟩ = some (.int .i64 y) ∧ Hid (Below wr.heap.size wr w')) ((refine hKS.out _ ?_; go_split_ands; repeat (first | assumption | exact Below.refl _ _ | exact Hid.out (by assumption) | refine grow_drew ?_ | refine grow_alloc ?_ _ | refine grow_trans ?_ (by assumption))))
            (first
              | (go_at_call 13; refine (storeBegun_any _).mono ?_; rintro e w' ⟨rfl, hbx⟩))
          go_split_ands
          go_wp2
          go_ret
          refine ⟨by simp, grow_trans (grow_trans B6.out hnx.out) (Hid.out ?_)⟩
          assumption))


set_option maxRecDepth 100000 in
set_option maxHeartbeats 1000000 in
theorem storeTrue_nil (w : World) (hs : IsInts w sa s) (hla : la = none → lc = 0) (hn : (Lit.int .i64 n).wf = true) (hkey : (Lit.int .i64 key).wf = true) (h8 : s.length = 8) :
    Calls Try.prog 5 #[.slice sa s.length sc, .slice la 0 lc, .int .i64 n, .int .i64 key] w fun e w' => e = .returned (.bool true) ∧ Below w.heap.size w w' := by
  have HE : ∀ s' : List Int, s'.length = 8 → serE s' [] = 0 := fun s' h => (serE_chk h).trans rfl
  have HS : Hid (IsInts w sa s) := hs
  have H8 : Hid (s.length = 8) := h8
  have hb8 : ((s.length : Int) != 8) = false := by simp; omega
  have CH : Hid (∀ w', Calls Try.prog 20 #[.int .i64 n, .int .i64 1] w' fun e w'' => e = .returned (.int .i64 0) ∧ w'' = w') := fun w' => by
    refine (choose_any n 1 w' hn (by omega) (by omega)).mono ?_
    rintro e w'' ⟨k, hk, h1, h2⟩
    have hk0 : k = 0 := by omega
    subst hk0
    exact ⟨h1, h2⟩
  have CK : Hid (∀ w', Calls Try.prog 20 #[.int .i64 key, .int .i64 8] w' fun e w'' => ∃ k : Nat, k < 8 ∧ e = .returned (.int .i64 k) ∧ w'' = w') := fun w' => choose_any key 8 w' hkey (by omega) (by omega)
  have CS : Hid (∀ w' ea ec qa qc, IsInts w' ea s → Calls Try.prog 17 #[.slice ea 8 ec, .slice qa 0 qc] w' fun e w'' => ∃ ea ec xa xc, e = .returned (.tuple #[.slice ea 8 ec, .slice xa 0 xc, .int .i64 0]) ∧ SO w'.heap.size w'' ea ec xa xc s [] ∧ Below w'.heap.size w' w'') := fun w' ea ec qa qc q1 => by
    have h := serial_any ea qa ec qc s [] w' q1 (fun i hi => absurd hi (by simp))
    have e1 : sEnd s [] = s := if_pos (HE s h8)
    have e2 : sRes s [] = [] := if_pos (HE s h8)
    rw [e1, e2, HE s h8, h8] at h
    exact h
  have C1 : Hid (Calls Try.prog 17 #[.slice sa s.length sc, .slice la 0 lc] w fun e w'' => ∃ ea ec xa xc, e = .returned (.tuple #[.slice ea 8 ec, .slice xa 0 xc, .int .i64 0]) ∧ SO w.heap.size w'' ea ec xa xc s [] ∧ Below w.heap.size w w'') := by rw [h8]; exact CS.out w sa sc la lc hs
  have CS' : Hid (∀ w' qa qc, IsInts w' sa s → Calls Try.prog 17 #[.slice sa s.length sc, .slice qa 0 qc] w' fun e w'' => ∃ ea ec xa xc, e = .returned (.tuple #[.slice ea 8 ec, .slice xa 0 xc, .int .i64 0]) ∧ SO w'.heap.size w'' ea ec xa xc s [] ∧ Below w'.heap.size w' w'') := fun w' qa qc q => by rw [h8]; exact CS.out w' sa sc qa qc q
  have SR : Hid (∀ w' a a' c c', Calls Try.prog 19 #[.slice a 0 c, .slice a' 0 c'] w' fun e w'' => e = .returned (.bool true) ∧ Below w'.heap.size w' w'') := fun w' a a' c c' => sameResults_eq [] a a' c c' w' (by simp) (by simp) (fun i hi => absurd hi (by simp)) (fun i hi => absurd hi (by simp))
  clear hs hn hkey HE h8
  go_enter Try.func5, Try.ntmps5
  go_wp2_with fail
  refine C1.out.mono ?_
  rintro e w1 ⟨ea, ec, xa, xc, rfl, hso, hb1⟩
  have hE1 : Hid (IsInts w1 ea s) := hso.ints
  have hxf : (xa = none ∧ xc = 0) ∨ (∃ xb, xa = some ⟨xb, 0, none⟩) := by
    rcases hso.form with ⟨h1, h2, _⟩ | ⟨xb, h1, _⟩
    · exact .inl ⟨h1, h2⟩
    · exact .inr ⟨xb, h1⟩
  clear hso C1
  have hlf : (la = none ∧ lc = 0) ∨ (∃ ad, la = some ad) := by
    cases la with
    | none => exact .inl ⟨rfl, hla rfl⟩
    | some ad => exact .inr ⟨ad, rfl⟩
  clear hla
  go_wp2_with fail
  refine (CH.out _).mono ?_
  rintro e w' ⟨rfl, hw'⟩
  rw [hw']
  clear hw' w' CH
  rcases hlf with ⟨rfl, rfl⟩ | ⟨ad, rfl⟩ <;> rcases hxf with ⟨rfl, rfl⟩ | ⟨xb, rfl⟩
  all_goals (
    go_wp2_with fail
    all_goals (
      refine (CS'.out _ _ _ (HS.out.below hb1)).mono ?_
      rintro e w2 ⟨eb, ebc, xa2, xc2, rfl, hso2, hb2⟩
      have hE2 : Hid (IsInts w2 eb s) := hso2.ints
      clear hso2
      go_wp2_with fail
      all_goals (
        refine (CS.out _ _ _ _ _ hE2.out).mono ?_
        rintro e w3 ⟨ec3, ecc3, xa3, xc3, rfl, hso3, hb3⟩
        have hE3 : Hid (IsInts w3 ec3 s) := hso3.ints
        have hE1' : Hid (IsInts w3 ea s) := hE1.out.below (grow_trans hb2 hb3)
        have B3 : Hid (Below w.heap.size w w3) := grow_trans hb1 (grow_trans hb2 hb3)
        clear hso3 hb1 hb2 hb3 hE1 hE2
        go_wp2_with fail
        refine (same8 ea ec3 ec ecc3 s H8.out _ hE1'.out hE3.out).mono ?_
        rintro e w4 ⟨rfl, hb4⟩
        go_wp2_with fail
        all_goals (
          refine (SR.out _ _ _ _ _).mono ?_
          rintro e w5 ⟨rfl, hb5⟩
          go_wp2_with fail
          all_goals (
            refine (SR.out _ _ _ _ _).mono ?_
            rintro e w6 ⟨rfl, hb6⟩
            go_wp2_with fail
            refine (CK.out _).mono ?_
            rintro e w' ⟨i, hi, rfl, hw'⟩
            rw [hw']
            clear hw' w'
            have B6 : Hid (Below w.heap.size w w6) := grow_trans B3.out (grow_trans hb4 (grow_trans hb5 hb6))
            obtain ⟨b4, off4, rfl, hb4', k4⟩ := (hE1'.out.below (grow_trans hb4 (grow_trans hb5 hb6))) i (by have := H8.out; omega)
            obtain ⟨b5, off5, rfl, hb5', k5⟩ := HS.out i (by have := H8.out; omega)
            have q5 := ext_cell B6.out k5
            generalize s.getD i 0 = y at *
            have i1 : (0 : Int) ≤ (i : Int) := by omega
            have i2 : (i : Int) < 8 := by omega
            have i3 : (i : Int) < (s.length : Int) := by have := H8.out; omega
            clear hb4 hb5 hb6 hE1' hE3 B3 k5 SR CS CS' CK
            go_wp2
            go_loopw [20, 21] (fun x _ wr => x = .int .i64 0 ∧ wr = w6) (fun _ _ _ => 0)
            case atStart => exact ⟨rfl, rfl⟩
            case round =>
              obtain ⟨rfl, rfl⟩ := hrel
              have hKS : Hid (∀ w', Below wr.heap.size wr w' → w'.cell? ⟨b4, off4 + i, none⟩ = some (.int .i64 y) ∧ w'.cell? ⟨b5, off5 + i, none⟩ = some (.int .i64 y) ∧ Hid (Below wr.heap.size wr w')) := fun w' h => ⟨ext_cell h k4, ext_cell h q5, h⟩
              go_wp2
              go_region_held3 (fun w' => w'.cell? ⟨b4, off4 + i, none⟩ = some (.int .i64 y) ∧ w'.cell? ⟨b5, off5 + i, none⟩ = some (.int .i64 y) ∧ Hid (Below wr.heap.size wr w')) ((refine hKS.out _ ?_; go_split_ands; repeat (first | assumption | exact Below.refl _ _ | exact Hid.out (by assumption) | refine grow_drew ?_ | refine grow_alloc ?_ _ | refine grow_trans ?_ (by assumption))))
                (first
                  | (go_at_call 13; refine (storeBegun_any _).mono ?_; rintro e w' ⟨rfl, hbx⟩))
              go_split_ands
              go_wp2
              go_ret
              refine ⟨by simp, grow_trans B6.out (Hid.out ?_)⟩
              assumption)))))

theorem storeTrue_walk (w : World) (hs : IsInts w sa s) (hl : IsTxs w la l) (hlc : l.length ≤ lc) (hla : la = none → lc = 0) (hn : (Lit.int .i64 n).wf = true) (hkey : (Lit.int .i64 key).wf = true) :
    Calls Try.prog 5 #[.slice sa s.length sc, .slice la l.length lc, .int .i64 n, .int .i64 key] w fun e w' => e = .returned (.bool true) ∧ Below w.heap.size w w' := by
  by_cases hE : serE s l = 0
  · by_cases h0 : 0 < l.length
    · obtain ⟨b, off, rfl, _⟩ := hl 0 h0
      exact storeTrue_ok sa sc lc s l n key b off w hs hl h0 hlc hn hkey hE
    · have hl0 : l = [] := List.eq_nil_of_length_eq_zero (by omega)
      subst hl0
      exact storeTrue_nil sa la sc lc s n key w hs hla hn hkey (serE_zero hE).1
  · exact storeTrue_bad sa la sc lc s l n key w hs hl hE

set_option maxRecDepth 100000 in
theorem storeTrue_lifted (os : Os) (started : os.Started) (H : Type) (enc : TypeId × Value → H) :
    ReturnsInHanded {} Try.checked os 5 .any (Rows.storeTrueSpec.pre6 enc Try.prog Try.f5 Rows.storeTrueRow.domain false) (Rows.storeTrueSpec.post enc Try.prog Try.f5 false true false false) := by
  refine returnsInHanded_of_change (C := Try.checked) ownK started (by kernel_rfl) Try.func5
    (ChangeSpec.witness6 (enc := enc) (C := Try.checked) false ⟨#[], #[.slice none 0 0, .slice none 0 0, .int .i64 0, .int .i64 0], []⟩ 8 (by kernel_rfl) (by kernel_rfl) (by kernel_rfl) (by kernel_rfl)) ?_
  intro W base args ds gs0 before hval0 hW hcnd _
  have hval : ∀ (j : Nat) t v, Try.f5.params[j]? = some t → args[j]? = some v → Value.okWide Try.prog W .any base t v := hval0
  have hW' := hW
  obtain ⟨p, q, hA0, hV, rfl, hfz, hnd⟩ := hW
  have hA : DataW.TrodAll enc Try.prog W 0 (fun _ => true) true Try.f5.params.toList args.toList ds p := hA0
  rw [Try.params5] at hA hval
  obtain ⟨v0, vs0, d0, ds0, p0, q0, hargs, rfl, rfl, h0, r0⟩ := trodAll_cons hA
  obtain ⟨v1, vs1, d1, ds1, p1, q1, rfl, rfl, rfl, h1, r1⟩ := trodAll_cons r0
  obtain ⟨v2, vs2, d2, ds2, p2, q2, rfl, rfl, rfl, h2, r2⟩ := trodAll_cons r1
  obtain ⟨v3, vs3, d3, ds3, p3, q3, rfl, rfl, rfl, h3, r3⟩ := trodAll_cons r2
  obtain ⟨rfl, rfl, rfl⟩ := trodAll_nil r3
  obtain rfl : args = #[v0, v1, v2, v3] := by cases args; simp_all
  obtain ⟨rfl, rfl⟩ := trodVars_none hV
  have k0 := h0
  have lt0 : ∀ x ∈ p0, x.block < W.heap.size := by obtain ⟨m, hm⟩ := k0; exact DataW.trod_lt m _ _ _ hm
  have k1 := h1
  have lt1 : ∀ x ∈ p1, x.block < W.heap.size := by obtain ⟨m, hm⟩ := k1; exact DataW.trod_lt m _ _ _ hm
  have k2 := h2
  have lt2 : ∀ x ∈ p2, x.block < W.heap.size := by obtain ⟨m, hm⟩ := k2; exact DataW.trod_lt m _ _ _ hm
  have k3 := h3
  have lt3 : ∀ x ∈ p3, x.block < W.heap.size := by obtain ⟨m, hm⟩ := k3; exact DataW.trod_lt m _ _ _ hm
  obtain ⟨za0, zs0, zc0, rfl, hzl0, hz0, hzn0⟩ := open_zs (hval 0 22 v0 rfl rfl) h0
  obtain ⟨la1, l1, lc1, rfl, hll1, hlc1, hl1, hln1⟩ := open_l (hval 1 37 v1 rfl rfl) h1
  obtain ⟨n2, rfl, hn2⟩ := open_i (hval 2 3 v2 rfl rfl) h2
  obtain ⟨n3, rfl, hn3⟩ := open_i (hval 3 3 v3 rfl rfl) h3
  clear hA0 hval0
  refine (storeTrue_walk za0 la1 zc0 lc1 zs0 l1 n2 n3 W hz0 hl1 hlc1 hln1 hn2 hn3).mono fun e W' ⟨he, bel⟩ => ?_
  subst he
  exact ⟨_, rfl, _, _, _, [], _, [], hW', trodAll_mk1 (shut_bool Try.underlying4 _), (trodAll_cons_mk (Below.trod laidOutK (by kernel_rfl) (of_decide_eq_true (by kernel_rfl)) k0 bel lt0) (trodAll_cons_mk (Below.trod laidOutK (by kernel_rfl) (of_decide_eq_true (by kernel_rfl)) k1 bel lt1) (trodAll_cons_mk (Below.trod laidOutK (by kernel_rfl) (of_decide_eq_true (by kernel_rfl)) k2 bel lt2) (trodAll_cons_mk (Below.trod laidOutK (by kernel_rfl) (of_decide_eq_true (by kernel_rfl)) k3 bel lt3) trodAll_mk0)))), rfl, bel.frame _, fun h => by cases h⟩

set_option maxRecDepth 100000 in
theorem storeTrue_over : Rows.storeTrueRow.holds Try.pinned (OpenSpec.ofChange Rows.storeTrueSpec) :=
  OpenClaim.holds_of_wide 5 Try.f5 rfl rfl rfl rfl rfl rfl rfl ⟨rfl, rfl, rfl, rfl, rfl⟩ rfl rfl rfl rfl rfl (by kernel_rfl) Try.func5 (by kernel_rfl)
    (of_decide_eq_true (by kernel_rfl)) (by unfold Func.isWrapper; first | (rw [if_pos (by decide +kernel)]; kernel_rfl) | (rw [if_neg (by decide +kernel)]; exact ⟨rfl, rfl⟩))
    (fun os started H enc _ => storeTrue_lifted os started H enc)

/-- The statement. -/
theorem storeTrue_holds : Rows.StoreTrueSaid := storeTrue_over
#print axioms storeTrue_holds
end Go.Proofs.Ytfogphljilgogaa
