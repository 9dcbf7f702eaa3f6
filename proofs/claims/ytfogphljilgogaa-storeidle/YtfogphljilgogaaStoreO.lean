/-
  The law StoreIdle, walked: who is not done changes nothing.
  Conditions: those that each theorem states.
-/
import Derived.Test.YtfogphljilgogaaStoreN
import Derived.WalkKit
import Derived.WalkSpells
import Derived.WalkLawsBesides
import Derived.ProofKit
import Derived.Deep.RegionHeld3
import Derived.Deep.RegionLaw
import Derived.Deep.DeepCutAuto
import Derived.BigQuiet
namespace Go.Proofs.Ytfogphljilgogaa
open Go.RowKit

variable (sa la : Option Addr) (sc lc : Nat) (s : List Int) (l : List TxA) (n : Int)

set_option maxRecDepth 100000 in
set_option maxHeartbeats 2000000 in
theorem storeIdle_bad (w : World) (hs : IsInts w sa s) (hl : IsTxs w la l) (hE : ¬ serE s l = 0) :
    Calls Try.prog 6 #[.slice sa s.length sc, .slice la l.length lc, .int .i64 n] w fun e w' => e = .returned (.bool true) ∧ Below w.heap.size w w' := by
  have HS : Hid (IsInts w sa s) := hs
  have HL : Hid (IsTxs w la l) := hl
  have hb' : (serE s l != 0) = true := by simpa using hE
  clear hs hl hE
  go_enter Try.func6, Try.ntmps6
  go_wp2_with fail
  refine (serial_any sa la sc lc s l _ HS.out HL.out).mono ?_
  rintro e w1 ⟨ea, ec, xa, xc, rfl, hso, hb1⟩
  go_wp2_with fail
  refine (storeBegun_any _).mono ?_
  rintro e w2 ⟨rfl, hb2⟩
  have B2 : Below w.heap.size w w2 := grow_trans hb1 hb2
  clear hso hb1 hb2
  go_wp2
  go_ret
  exact ⟨rfl, B2⟩

set_option maxRecDepth 100000 in
set_option maxHeartbeats 2000000 in
theorem storeIdle_nil (w : World) (hs : IsInts w sa s) (hE : serE s [] = 0) :
    Calls Try.prog 6 #[.slice sa s.length sc, .slice la 0 lc, .int .i64 n] w fun e w' => e = .returned (.bool true) ∧ Below w.heap.size w w' := by
  have HS : Hid (IsInts w sa s) := hs
  have H3 : Hid (serE s [] = 0) := hE
  clear hs hE
  go_enter Try.func6, Try.ntmps6
  go_wp2_with fail
  refine (serial_any sa la sc lc s [] _ HS.out (fun i hi => absurd hi (by simp))).mono ?_
  rintro e w1 ⟨ea, ec, xa, xc, rfl, hso, hb1⟩
  rw [H3.out]
  go_wp2_with fail
  refine (storeBegun_any _).mono ?_
  rintro e w2 ⟨rfl, hb2⟩
  have B2 : Below w.heap.size w w2 := grow_trans hb1 hb2
  clear hso hb1 hb2
  go_wp2
  go_ret
  exact ⟨rfl, B2⟩

theorem take_drop_len (k : Nat) (l : List TxA) (h : k < l.length) : (l.take k ++ l.drop (k + 1)).length = l.length - 1 := by
  rw [List.length_append, List.length_take, List.length_drop]; omega

set_option maxRecDepth 100000 in
set_option maxHeartbeats 4000000 in
theorem storeIdle_ok (b off : Nat) (w : World) (hs : IsInts w sa s) (hl : IsTxs w (some ⟨b, off, none⟩) l) (hne : 0 < l.length) (hlc : l.length ≤ lc) (hn : (Lit.int .i64 n).wf = true) (hE : serE s l = 0) :
    Calls Try.prog 6 #[.slice sa s.length sc, .slice (some ⟨b, off, none⟩) l.length lc, .int .i64 n] w fun e w' => e = .returned (.bool true) ∧ Below w.heap.size w w' := by
  obtain ⟨h8, hC⟩ := serE_zero hE
  have hl8 := chkL_len hC
  have HS : Hid (IsInts w sa s) := hs
  have HL : Hid (IsTxs w (some ⟨b, off, none⟩) l) := hl
  have H1 : Hid (sEnd s l = serEnd s l) := if_pos hE
  have H2 : Hid (sRes s l = serRes s l) := if_pos hE
  have H3 : Hid (serE s l = 0) := hE
  have H8 : Hid (s.length = 8) := h8
  have HRL : Hid ((serRes s l).length = l.length) := serRes_len l s
  have HEL : Hid ((serEnd s l).length = 8) := (serEnd_len l s).trans h8
  have CH : Hid (∀ w', Calls Try.prog 20 #[.int .i64 n, .int .i64 (l.length : Int)] w' fun e w'' => ∃ k : Nat, k < l.length ∧ e = .returned (.int .i64 k) ∧ w'' = w') := fun w' => choose_any n l.length w' hn (by omega) (by omega)
  have hl0 : ((l.length : Int) == 0) = false := beq_eq_false_iff_ne.2 (by omega)
  clear hs hl hE h8 hC hn
  go_enter Try.func6, Try.ntmps6
  go_wp2_with fail
  refine (serial_any sa _ sc lc s l _ HS.out HL.out).mono ?_
  rintro e w1 ⟨ea, ec, xa, xc, rfl, hso, hb1⟩
  rw [H1.out, H2.out] at hso ⊢
  rw [H3.out]
  obtain ⟨xb, rfl, hxc⟩ : ∃ xb, xa = some ⟨xb, 0, none⟩ ∧ (serRes s l).length ≤ xc := by
    rcases hso.form with ⟨_, _, h⟩ | h
    · have := HRL.out; rw [h] at this; simp at this; omega
    · exact h
  have hE1 : Hid (IsInts w1 ea (serEnd s l)) := hso.ints
  have hR1 : Hid (IsRes w1 (some ⟨xb, 0, none⟩) (serRes s l)) := hso.res
  obtain ⟨_, _, rl, hrow, htl⟩ := hso
  have HRW : Hid (ResRow w.heap.size w1 (.slice (some ⟨xb, 0, none⟩) (serRes s l).length xc) rl) := hrow
  have HTL : Hid (rl.map RsA.told = serRes s l) := htl
  rw [HRL.out] at hxc ⊢
  rw [HEL.out]
  clear hrow htl
  go_wp2_with fail
  refine (CH.out _).mono ?_
  rintro e w' ⟨k, hk, rfl, hw'⟩
  rw [hw']
  clear hw' w'
  obtain ⟨rb, roff, va, vc, hra, _, r0, _, _⟩ := hR1.out k (by rw [HRL.out]; exact hk)
  injection hra with hra
  injection hra with e1 e2 _
  subst e1 e2
  have t0 : w1.cell? ⟨xb, k * 2, none⟩ = some (.bool ((serRes s l).getD k (false, [])).1) := by simpa using r0
  have HD : Hid (((serRes s l).getD k (false, [])).1 = false → serEnd s (l.take k ++ l.drop (k + 1)) = serEnd s l ∧ serRes s (l.take k ++ l.drop (k + 1)) = (serRes s l).take k ++ (serRes s l).drop (k + 1)) := ser_less s l k hk
  clear r0 hR1
  generalize ((serRes s l).getD k (false, [])).1 = D at *
  cases D with
  | true =>
    clear HD
    go_wp2_with fail
    refine (storeBegun_any _).mono ?_
    rintro e w2 ⟨rfl, hb2⟩
    have B2 : Below w.heap.size w w2 := grow_trans hb1 hb2
    clear hb2 t0
    go_wp2
    go_ret
    exact ⟨rfl, B2⟩
  | false =>
    obtain ⟨hEnd, hRes⟩ := HD.out rfl
    have HM : Hid ((l.take k ++ l.drop (k + 1)).length = l.length - 1) := take_drop_len k l hk
    have HE2 : Hid (serE s (l.take k ++ l.drop (k + 1)) = 0) := serE_part H3.out _ (fun x hx => by
      rcases List.mem_append.1 hx with h | h
      · exact List.mem_of_mem_take h
      · exact List.mem_of_mem_drop h) (by rw [HM.out]; omega) s rfl
    have C2 : Hid (∀ w' na nc, IsInts w' sa s → IsTxs w' na (l.take k ++ l.drop (k + 1)) → Calls Try.prog 17 #[.slice sa s.length sc, .slice na (l.length - 1) nc] w' fun e w'' => ∃ ea ec xa xc, e = .returned (.tuple #[.slice ea 8 ec, .slice xa (l.length - 1) xc, .int .i64 0]) ∧ IsInts w'' ea (serEnd s l) ∧ IsRes w'' xa ((serRes s l).take k ++ (serRes s l).drop (k + 1)) ∧ Below w'.heap.size w' w'') := fun w' na nc q1 q2 => by
      have h := serial_any sa na sc nc s (l.take k ++ l.drop (k + 1)) w' q1 q2
      have e1 : sEnd s (l.take k ++ l.drop (k + 1)) = serEnd s l := (if_pos HE2.out).trans hEnd
      have e2 : sRes s (l.take k ++ l.drop (k + 1)) = (serRes s l).take k ++ (serRes s l).drop (k + 1) := (if_pos HE2.out).trans hRes
      have e3 : ((serRes s l).take k ++ (serRes s l).drop (k + 1)).length = l.length - 1 := by rw [← hRes, serRes_len, HM.out]
      rw [e1, e2, HE2.out, HEL.out, e3, HM.out] at h
      refine h.mono ?_
      rintro e w'' ⟨ea, ec, xa, xc, h1, h2, h3⟩
      exact ⟨ea, ec, xa, xc, h1, h2.ints, h2.res, h3⟩
    have NT : Hid (∀ w', Below w1.heap.size w1 w' → Lies w' ⟨b, off, none⟩ (flatX (l.take k))) := fun w' h => lies_txs (isTxs_take (HL.out.below (grow_trans hb1 h)) k)
    have ND : Hid (∀ w', Below w1.heap.size w1 w' → Lies w' ⟨b, off + (k + 1) * 3, none⟩ (flatX (l.drop (k + 1)))) := fun w' h => lies_txs (isTxs_drop (HL.out.below (grow_trans hb1 h)) (k + 1))
    have NX : Hid (∀ w', Below w1.heap.size w1 w' → ∀ x ∈ l.take k ++ l.drop (k + 1), IsX w' x) := fun w' h x hx => by
      have hm : x ∈ l := by
        rcases List.mem_append.1 hx with h | h
        · exact List.mem_of_mem_take h
        · exact List.mem_of_mem_drop h
      obtain ⟨j, hj, rfl⟩ := List.mem_iff_getElem.1 hm
      obtain ⟨_, _, _, _, _, _, _, q⟩ := HL.out j hj
      have e : l.getD j x0 = l[j] := by simp [List.getD, hj]
      rw [e] at q
      exact q.below (grow_trans hb1 h)
    have LT : Hid ((l.take k).length = k) := by show _ = _; rw [List.length_take]; omega
    have LD : Hid ((l.drop (k + 1)).length = l.length - (k + 1)) := by show _ = _; rw [List.length_drop]
    clear HD hEnd hRes
    go_upto_region 9 with fail
    have HB1 : Hid (Below w.heap.size w w1) := hb1
    have hk0 : k ≤ lc := by omega
    have hk1 : k + 1 ≤ lc := by omega
    have hk2 : k + 1 ≤ l.length := hk
    have hk4 : IntKind.i64.wrap ((k : Int) + 1) = (k : Int) + 1 := IntWalk.i64_in _ (by omega)
    have hk5 : ((k : Int) + 1).toNat = k + 1 := by omega
    have hk6 : (0 : Int) ≤ (k : Int) + 1 := by omega
    have hk7 : (k : Int) + 1 ≤ (l.length : Int) := by omega
    clear hb1 t0
    go_cut [11] (fun v wx => ∃ na nc, v = .slice na (l.length - 1) nc ∧ IsTxs wx na (l.take k ++ l.drop (k + 1)) ∧ Below w1.heap.size w1 wx)
    case first =>
      by_cases hcc : lc = k + 1
      · subst hcc
        have hk3 : (k : Int) ≤ (k : Int) + 1 := by omega
        have hld : l.drop (k + 1) = [] := List.drop_eq_nil_of_le (by omega)
        go_region_law (first
          | (refine step_append_xs (by rfl) _ _ (by rfl) w1.heap.size (.slice (some ⟨_, 0, none⟩) 0 0) [] (by rfl) ?_ ⟨b, off, none⟩ (l.take k) k _ (by rfl) LT.out ?_ (by rw [LT.out]; simp; omega) w1 ?_ rfl ?_; (repeat (first | exact own_empty3 _ _ _ rfl (Nat.le_refl _) | refine owns_below ?_ (grow_drew (Below.refl _ _)))); (refine NT.out _ ?_; (repeat (first | exact Below.refl _ _ | exact hb2 | refine grow_drew ?_ | refine grow_alloc ?_ _))); ((repeat (first | exact Below.refl _ _ | exact hb2 | refine grow_drew ?_ | refine grow_alloc ?_ _))); (intro v' w2 ho2 hb2))
          | (refine step_append_xs (by rfl) _ _ (by rfl) w1.heap.size v' (l.take k) (by rfl) ?_ ⟨b, off, none⟩ (l.drop (k + 1)) _ _ (by rfl) ?_ ?_ (by rw [LT.out, LD.out]; omega) w1 ?_ rfl ?_; (repeat (first | exact ho2 | refine owns_below ?_ (grow_drew (Below.refl _ _)))); (first | exact LD.out | (rw [LD.out]; omega) | (rw [LD.out]; simp; omega)); (rw [hld]; exact lies_nil _ _); ((repeat (first | exact Below.refl _ _ | exact hb2 | refine grow_drew ?_ | refine grow_alloc ?_ _))); (intro v3 w3 ho3 hb3; obtain ⟨na, nc, hv3, hx3⟩ := txs_of_owns ho3 (NX.out _ hb3); rw [HM.out] at hv3; subst hv3)))
        all_goals (go_wp2_with fail; go_meet; exact ⟨na, nc, rfl, hx3, hb3⟩)
      · go_region_law (first
          | (refine step_append_xs (by rfl) _ _ (by rfl) w1.heap.size (.slice (some ⟨_, 0, none⟩) 0 0) [] (by rfl) ?_ ⟨b, off, none⟩ (l.take k) k _ (by rfl) LT.out ?_ (by rw [LT.out]; simp; omega) w1 ?_ rfl ?_; (repeat (first | exact own_empty3 _ _ _ rfl (Nat.le_refl _) | refine owns_below ?_ (grow_drew (Below.refl _ _)))); (refine NT.out _ ?_; (repeat (first | exact Below.refl _ _ | exact hb2 | refine grow_drew ?_ | refine grow_alloc ?_ _))); ((repeat (first | exact Below.refl _ _ | exact hb2 | refine grow_drew ?_ | refine grow_alloc ?_ _))); (intro v' w2 ho2 hb2))
          | (refine step_append_xs (by rfl) _ _ (by rfl) w1.heap.size v' (l.take k) (by rfl) ?_ ⟨b, off + (k + 1) * 3, none⟩ (l.drop (k + 1)) _ _ (by rfl) ?_ ?_ (by rw [LT.out, LD.out]; omega) w1 ?_ rfl ?_; (repeat (first | exact ho2 | refine owns_below ?_ (grow_drew (Below.refl _ _)))); (first | exact LD.out | (rw [LD.out]; omega) | (rw [LD.out]; simp; omega)); (refine ND.out _ ?_; (repeat (first | exact Below.refl _ _ | exact hb2 | refine grow_drew ?_ | refine grow_alloc ?_ _))); ((repeat (first | exact Below.refl _ _ | exact hb2 | refine grow_drew ?_ | refine grow_alloc ?_ _))); (intro v3 w3 ho3 hb3; obtain ⟨na, nc, hv3, hx3⟩ := txs_of_owns ho3 (NX.out _ hb3); rw [HM.out] at hv3; subst hv3)))
        all_goals (go_wp2_with fail; go_meet; exact ⟨na, nc, rfl, hx3, hb3⟩)
    case rest =>
      obtain ⟨na, nc, rfl, hxc2, hbc⟩ := hcut
      have HX2 : Hid (IsTxs wc na (l.take k ++ l.drop (k + 1))) := hxc2
      have HBC : Hid (Below w1.heap.size w1 wc) := hbc
      clear hxc2 hbc NT ND NX LT LD hk0 hk1
      go_wp2_with fail
      refine (C2.out _ na nc (HS.out.below (grow_trans HB1.out HBC.out)) HX2.out).mono ?_
      rintro e w4 ⟨ea2, ec2, xa2, xc2, rfl, hE2, hR2, hb4⟩
      have QE1 : Hid (IsInts w4 ea (serEnd s l)) := (hE1.out.below HBC.out).below hb4
      have QE2 : Hid (IsInts w4 ea2 (serEnd s l)) := hE2
      have QR2 : Hid (IsRes w4 xa2 ((serRes s l).take k ++ (serRes s l).drop (k + 1))) := hR2
      have BB : Hid (Below w.heap.size w w4) := grow_trans HB1.out (grow_trans HBC.out hb4)
      have HLR := flatR_part rl k 0 (lies_row HRW.out.1)
      have HLR2 := flatR_part rl (k + 1) 0 (lies_row HRW.out.1)
      have RT : Hid (∀ w', Below w4.heap.size w4 w' → Lies w' ⟨xb, 0, none⟩ (flatR (rl.take k))) := fun w' h => ((HLR.1.below HBC.out).below hb4).below h
      have RD : Hid (∀ w', Below w4.heap.size w4 w' → Lies w' ⟨xb, (k + 1) * 2, none⟩ (flatR (rl.drop (k + 1)))) := fun w' h => by
        have h2 := ((HLR2.2.below HBC.out).below hb4).below h
        rw [Nat.zero_add] at h2
        exact h2
      have hrll : rl.length = l.length := by rw [← HRL.out, ← HTL.out, List.length_map]
      have LT : Hid ((rl.take k).length = k) := by show _ = _; rw [List.length_take]; omega
      have LD : Hid ((rl.drop (k + 1)).length = l.length - (k + 1)) := by show _ = _; rw [List.length_drop]; omega
      have RX : Hid (∀ w', Below w4.heap.size w4 w' → ∀ r ∈ rl.take k ++ rl.drop (k + 1), IsInts w' r.va r.vs) := fun w' h r hr => by
        have hm : r ∈ rl := by
          rcases List.mem_append.1 hr with h | h
          · exact List.mem_of_mem_take h
          · exact List.mem_of_mem_drop h
        exact ((((HRW.out.2 r hm).1.ints (Nat.le_refl _)).below HBC.out).below hb4).below h
      have HT2 : Hid ((rl.take k ++ rl.drop (k + 1)).map RsA.told = (serRes s l).take k ++ (serRes s l).drop (k + 1)) := by
        show _ = _
        rw [List.map_append, List.map_take, List.map_drop, HTL.out]
      have HLN : Hid (((serRes s l).take k ++ (serRes s l).drop (k + 1)).length = l.length - 1) := by
        show _ = _
        rw [List.length_append, List.length_take, List.length_drop, HRL.out]; omega
      have SR : Hid (∀ w' a a' c c', IsRes w' a ((serRes s l).take k ++ (serRes s l).drop (k + 1)) → IsRes w' a' ((serRes s l).take k ++ (serRes s l).drop (k + 1)) → Calls Try.prog 19 #[.slice a (l.length - 1) c, .slice a' (l.length - 1) c'] w' fun e w'' => e = .returned (.bool true) ∧ Below w'.heap.size w' w'') := fun w' a a' c c' q1 q2 => by
        have h := sameResults_eq ((serRes s l).take k ++ (serRes s l).drop (k + 1)) a a' c c' w' (by rw [HLN.out]; omega) (fun r hr => vals_few H3.out r (by
          rcases List.mem_append.1 hr with h | h
          · exact List.mem_of_mem_take h
          · exact List.mem_of_mem_drop h)) q1 q2
        rw [HLN.out] at h
        exact h
      have SI : Hid (∀ w', IsInts w' ea (serEnd s l) → IsInts w' ea2 (serEnd s l) → Calls Try.prog 16 #[.slice ea 8 ec, .slice ea2 8 ec2] w' fun e w'' => e = .returned (.bool true) ∧ Below w'.heap.size w' w'') := sameStore ea ea2 ec ec2 (serEnd s l) HEL.out
      clear HLR HLR2 hE1 hE2 hR2 hb4 HRW HTL HBC HX2 HB1 C2 HS HL H1 H2 H3 H8 HRL HEL CH HE2 HM
      generalize serEnd s l = E at *
      generalize (serRes s l).take k ++ (serRes s l).drop (k + 1) = R at *
      have hk8 : k + 1 ≤ xc := by omega
      have hk9 : k ≤ xc := by omega
      go_upto_region 11 with fail
      by_cases hcc : xc = k + 1
      · subst hcc
        have hk3 : (k : Int) ≤ (k : Int) + 1 := by omega
        have hld : rl.drop (k + 1) = [] := List.drop_eq_nil_of_le (by omega)
        go_region_held3 (fun w' => Hid (Below w4.heap.size w4 w')) ((refine hid_in ?_; (go_split_ands; repeat (first | assumption | exact Below.refl _ _ | exact Hid.out (by assumption) | refine grow_drew ?_ | refine grow_alloc ?_ _ | refine grow_trans ?_ (by assumption)))))
          (first
          | (go_at_call 13; refine (storeBegun_any _).mono ?_; rintro e w5 ⟨rfl, hb5⟩)
          | (go_at_call 16; refine (SI.out _ (QE1.out.below (Hid.out (by assumption))) (QE2.out.below (Hid.out (by assumption)))).mono ?_; rintro e w6 ⟨rfl, hb6⟩; have b6 : w4.heap.size ≤ w6.heap.size := Nat.le_trans (Below.size (Hid.out (by assumption))) hb6.size)
          | (refine step_append_res _ _ (by rfl) ?_ w4.heap.size (.slice (some ⟨_, 0, none⟩) 0 0) [] (by rfl) ?_ ⟨xb, 0, none⟩ (rl.take k) k _ (by rfl) LT.out (RT.out _ (Hid.out (by assumption))) (by rw [LT.out]; simp; omega) w4 (Hid.out (by assumption)) rfl ?_; rfl; (exact own_empty2 _ _ _ rfl b6); (intro v' w7 ho7 b7))
          | (refine step_append_res _ _ (by rfl) (by rfl) w4.heap.size v' (rl.take k) (by rfl) ho7 ⟨xb, 0, none⟩ (rl.drop (k + 1)) _ _ (by rfl) ?_ ?_ (by rw [LT.out, LD.out]; omega) w4 b7 rfl ?_; (first | exact LD.out | (rw [LD.out]; omega) | (rw [LD.out]; simp; omega)); (rw [hld]; exact lies_nil _ _); (intro v8 w8 ho8 b8; obtain ⟨ra8, rc8, hv8, hr8⟩ := res_of_owns ho8 (RX.out _ b8); rw [HT2.out] at hv8 hr8; rw [HLN.out] at hv8; subst hv8))
          | (go_at_call 19; refine (SR.out _ _ _ _ _ (QR2.out.below b8) hr8).mono ?_; rintro e w9 ⟨rfl, hb9⟩))
        all_goals (
          go_split_ands
          go_wp2
          go_ret
          refine ⟨rfl, grow_trans BB.out (Hid.out ?_)⟩
          assumption)
      · go_region_held3 (fun w' => Hid (Below w4.heap.size w4 w')) ((refine hid_in ?_; (go_split_ands; repeat (first | assumption | exact Below.refl _ _ | exact Hid.out (by assumption) | refine grow_drew ?_ | refine grow_alloc ?_ _ | refine grow_trans ?_ (by assumption)))))
          (first
          | (go_at_call 13; refine (storeBegun_any _).mono ?_; rintro e w5 ⟨rfl, hb5⟩)
          | (go_at_call 16; refine (SI.out _ (QE1.out.below (Hid.out (by assumption))) (QE2.out.below (Hid.out (by assumption)))).mono ?_; rintro e w6 ⟨rfl, hb6⟩; have b6 : w4.heap.size ≤ w6.heap.size := Nat.le_trans (Below.size (Hid.out (by assumption))) hb6.size)
          | (refine step_append_res _ _ (by rfl) ?_ w4.heap.size (.slice (some ⟨_, 0, none⟩) 0 0) [] (by rfl) ?_ ⟨xb, 0, none⟩ (rl.take k) k _ (by rfl) LT.out (RT.out _ (Hid.out (by assumption))) (by rw [LT.out]; simp; omega) w4 (Hid.out (by assumption)) rfl ?_; rfl; (exact own_empty2 _ _ _ rfl b6); (intro v' w7 ho7 b7))
          | (refine step_append_res _ _ (by rfl) (by rfl) w4.heap.size v' (rl.take k) (by rfl) ho7 ⟨xb, (k + 1) * 2, none⟩ (rl.drop (k + 1)) _ _ (by rfl) ?_ ?_ (by rw [LT.out, LD.out]; omega) w4 b7 rfl ?_; (first | exact LD.out | (rw [LD.out]; omega) | (rw [LD.out]; simp; omega)); (exact RD.out _ b7); (intro v8 w8 ho8 b8; obtain ⟨ra8, rc8, hv8, hr8⟩ := res_of_owns ho8 (RX.out _ b8); rw [HT2.out] at hv8 hr8; rw [HLN.out] at hv8; subst hv8))
          | (go_at_call 19; refine (SR.out _ _ _ _ _ (QR2.out.below b8) hr8).mono ?_; rintro e w9 ⟨rfl, hb9⟩))
        all_goals (
          go_split_ands
          go_wp2
          go_ret
          refine ⟨rfl, grow_trans BB.out (Hid.out ?_)⟩
          assumption)
end Go.Proofs.Ytfogphljilgogaa
