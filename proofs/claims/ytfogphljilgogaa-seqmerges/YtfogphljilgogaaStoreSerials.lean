/-
  Proved: for every store and list of transactions the law StoreSerials returns true: store.Serial answers just what the document says, errors too; the arguments read afterwards as they read before.
  Conditions: none.
-/
import Derived.Test.YtfogphljilgogaaStoreL
import Derived.WalkKit
import Derived.WalkSpells
import Derived.WalkLawsBesides
import Derived.ProofKit
import Derived.OpenShut
import Derived.ChangeOld
import Derived.Deep.Slices
import Derived.Deep.Strs
import Derived.Deep.RegionHeld3
import Derived.BigQuiet
import Derived.Lib.SmallJoins
namespace Go.Proofs.Ytfogphljilgogaa
open Go.ChangeShapes Go.WideShapes Go.ChangeAt Go.RowKit Go.Deep


theorem sEnd_small (s : List Int) (l : List TxA) : (sEnd s l).length ≤ 8 := by
  unfold sEnd
  split
  · rename_i h
    rw [serEnd_len]
    have := (serE_zero h).1
    omega
  · simp
theorem sRes_small (s : List Int) (l : List TxA) : (sRes s l).length ≤ 8 := by
  unfold sRes
  split
  · rename_i h
    rw [serRes_len]
    exact chkL_len (serE_zero h).2
  · simp
theorem serRes_vals : ∀ (l : List TxA) (s : List Int), (∀ x ∈ l, x.rs.length ≤ 4) → ∀ r ∈ serRes s l, r.2.length ≤ 4
  | [], s, _, r, hr => by cases hr
  | x :: t, s, h, r, hr => by
    rcases List.mem_cons.1 hr with rfl | hr
    · show (rdOf s x.rs).length ≤ 4
      rw [rdOf_len]
      exact h x (List.mem_cons_self)
    · exact serRes_vals t _ (fun y hy => h y (List.mem_cons_of_mem _ hy)) r hr
theorem chkL_mem {l : List TxA} (h : chkL l = 0) (x : TxA) (hx : x ∈ l) : chkX x = 0 := by
  obtain ⟨k, hk, rfl⟩ := List.mem_iff_getElem.1 hx
  have := chkL_at h k hk
  simpa [List.getD, hk] using this
theorem chkL_reads {l : List TxA} (h : chkL l = 0) : ∀ x ∈ l, x.rs.length ≤ 4 := fun x hx => by
  have h1 : chkTx x.rs x.gs x.ss = 0 := chkL_mem h x hx
  exact (many_small _ _ _ (chk_parts h1).1).1
theorem sRes_vals (s : List Int) (l : List TxA) : ∀ r ∈ sRes s l, r.2.length ≤ 100 := fun r hr => by
  unfold sRes at hr
  split at hr
  · rename_i h
    have := serRes_vals l s (chkL_reads (serE_zero h).2) r hr
    omega
  · cases hr

variable (sa la : Option Addr) (sc lc : Nat) (s : List Int) (l : List TxA)

set_option maxRecDepth 100000 in
set_option maxHeartbeats 2000000 in
theorem storeSerials_walk (w : World) (hs : IsInts w sa s) (hl : IsTxs w la l) :
    Calls Try.prog 4 #[.slice sa s.length sc, .slice la l.length lc] w fun e w' => e = .returned (.bool true) ∧ Below w.heap.size w w' := by
  have HS : Hid (IsInts w sa s) := hs
  have HL : Hid (IsTxs w la l) := hl
  have b1 : Hid ((sEnd s l).length ≤ maxLen) := by show _ ≤ _; have := sEnd_small s l; unfold maxLen; omega
  have b2 : Hid ((sRes s l).length ≤ 100) := by show _ ≤ _; have := sRes_small s l; omega
  have b3 : Hid (∀ r ∈ sRes s l, r.2.length ≤ 100) := sRes_vals s l
  have C1 : Hid (∀ w', IsInts w' sa s → IsTxs w' la l → Calls Try.prog 17 #[.slice sa s.length sc, .slice la l.length lc] w' fun e w'' => ∃ ea ec xa xc, e = .returned (.tuple #[.slice ea (sEnd s l).length ec, .slice xa (sRes s l).length xc, .int .i64 (serE s l)]) ∧ SO w'.heap.size w'' ea ec xa xc (sEnd s l) (sRes s l) ∧ Below w'.heap.size w' w'') := fun w' h1 h2 => serial_any sa la sc lc s l w' h1 h2
  have C2 : Hid (∀ w', IsInts w' sa s → IsTxs w' la l → Calls Try.prog 18 #[.slice sa s.length sc, .slice la l.length lc] w' fun e w'' => ∃ ea ec xa xc, e = .returned (.tuple #[.slice ea (sEnd s l).length ec, .slice xa (sRes s l).length xc, .int .i64 (serE s l)]) ∧ IsInts w'' ea (sEnd s l) ∧ IsRes w'' xa (sRes s l) ∧ Below w'.heap.size w' w'') := fun w' h1 h2 => serialOf_any sa la sc lc s l w' h1 h2
  generalize sEnd s l = E at *
  generalize sRes s l = R at *
  generalize serE s l = er at *
  clear hs hl
  go_enter Try.func4, Try.ntmps4
  go_wp2_with fail
  refine (C1.out _ HS.out HL.out).mono ?_
  rintro e w1 ⟨ea, ec, xa, xc, rfl, hso, hb1⟩
  have hE1 := hso.ints
  have hR1 := hso.res
  clear hso
  go_wp2_with fail
  refine (C2.out _ (HS.out.below hb1) (HL.out.below hb1)).mono ?_
  rintro e w2 ⟨ea2, ec2, xa2, xc2, rfl, hE2, hR2, hb2⟩
  go_wp2_with fail
  refine (storeBegun_any _).mono ?_
  rintro e w3 ⟨rfl, hb3⟩
  have h1 : Hid (IsInts w3 ea E) := (hE1.below hb2).below hb3
  have h2 : Hid (IsInts w3 ea2 E) := hE2.below hb3
  have h3 : Hid (IsRes w3 xa R) := (hR1.below hb2).below hb3
  have h4 : Hid (IsRes w3 xa2 R) := hR2.below hb3
  have B3 : Hid (Below w.heap.size w w3) := grow_trans (grow_trans hb1 hb2) hb3
  clear hE1 hE2 hR1 hR2 hb1 hb2 hb3
  go_wp2_with fail
  refine (sameInts_any E E ea ea2 ec ec2 _ b1.out h1.out h2.out).mono ?_
  rintro e w4 ⟨rfl, hb4⟩
  go_wp2_with fail
  refine (sameResults_eq R xa xa2 xc xc2 _ b2.out b3.out (h3.out.below hb4) (h4.out.below hb4)).mono ?_
  rintro e w5 ⟨rfl, hb5⟩
  have B5 : Below w.heap.size w w5 := grow_trans B3.out (grow_trans hb4 hb5)
  clear hb4 hb5
  go_wp2
  go_ret
  exact ⟨by simp, B5⟩

set_option maxRecDepth 100000 in
theorem storeSerials_lifted (os : Os) (started : os.Started) (H : Type) (enc : TypeId × Value → H) :
    ReturnsInHanded {} Try.checked os 4 .any (Rows.storeSerialsSpec.pre6 enc Try.prog Try.f4 Rows.storeSerialsRow.domain false) (Rows.storeSerialsSpec.post enc Try.prog Try.f4 false true false false) := by
  refine returnsInHanded_of_change (C := Try.checked) ownK started (by kernel_rfl) Try.func4
    (ChangeSpec.witness6 (enc := enc) (C := Try.checked) false ⟨#[], #[.slice none 0 0, .slice none 0 0], []⟩ 8 (by kernel_rfl) (by kernel_rfl) (by kernel_rfl) (by kernel_rfl)) ?_
  intro W base args ds gs0 before hval0 hW hcnd _
  have hval : ∀ (j : Nat) t v, Try.f4.params[j]? = some t → args[j]? = some v → Value.okWide Try.prog W .any base t v := hval0
  have hW' := hW
  obtain ⟨p, q, hA0, hV, rfl, hfz, hnd⟩ := hW
  have hA : DataW.TrodAll enc Try.prog W 0 (fun _ => true) true Try.f4.params.toList args.toList ds p := hA0
  rw [Try.params4] at hA hval
  obtain ⟨v0, vs0, d0, ds0, p0, q0, hargs, rfl, rfl, h0, r0⟩ := trodAll_cons hA
  obtain ⟨v1, vs1, d1, ds1, p1, q1, rfl, rfl, rfl, h1, r1⟩ := trodAll_cons r0
  obtain ⟨rfl, rfl, rfl⟩ := trodAll_nil r1
  obtain rfl : args = #[v0, v1] := by cases args; simp_all
  obtain ⟨rfl, rfl⟩ := trodVars_none hV
  have k0 := h0
  have lt0 : ∀ x ∈ p0, x.block < W.heap.size := by obtain ⟨m, hm⟩ := k0; exact DataW.trod_lt m _ _ _ hm
  have k1 := h1
  have lt1 : ∀ x ∈ p1, x.block < W.heap.size := by obtain ⟨m, hm⟩ := k1; exact DataW.trod_lt m _ _ _ hm
  obtain ⟨za0, zs0, zc0, rfl, hzl0, hz0, hzn0⟩ := open_zs (hval 0 22 v0 rfl rfl) h0
  obtain ⟨la1, l1, lc1, rfl, hll1, hlc1, hl1, hln1⟩ := open_l (hval 1 37 v1 rfl rfl) h1
  clear hA0 hval0
  refine (storeSerials_walk za0 la1 zc0 lc1 zs0 l1 W hz0 hl1).mono fun e W' ⟨he, bel⟩ => ?_
  subst he
  exact ⟨_, rfl, _, _, _, [], _, [], hW', trodAll_mk1 (shut_bool Try.underlying4 _), (trodAll_cons_mk (Below.trod laidOutK (by kernel_rfl) (of_decide_eq_true (by kernel_rfl)) k0 bel lt0) (trodAll_cons_mk (Below.trod laidOutK (by kernel_rfl) (of_decide_eq_true (by kernel_rfl)) k1 bel lt1) trodAll_mk0)), rfl, bel.frame _, fun h => by cases h⟩

set_option maxRecDepth 100000 in
theorem storeSerials_over : Rows.storeSerialsRow.holds Try.pinned (OpenSpec.ofChange Rows.storeSerialsSpec) :=
  OpenClaim.holds_of_wide 4 Try.f4 rfl rfl rfl rfl rfl rfl rfl ⟨rfl, rfl, rfl, rfl, rfl⟩ rfl rfl rfl rfl rfl (by kernel_rfl) Try.func4 (by kernel_rfl)
    (of_decide_eq_true (by kernel_rfl)) (by unfold Func.isWrapper; first | (rw [if_pos (by decide +kernel)]; kernel_rfl) | (rw [if_neg (by decide +kernel)]; exact ⟨rfl, rfl⟩))
    (fun os started H enc _ => storeSerials_lifted os started H enc)

/-- The statement. -/
theorem storeSerials_holds : Rows.StoreSerialsSaid := storeSerials_over
#print axioms storeSerials_holds
end Go.Proofs.Ytfogphljilgogaa
