/-
  The law SeqTrue, walked.
  Conditions: those that each theorem states.
-/
import Derived.Test.YtfogphljilgogaaSeqL
import Derived.Test.YtfogphljilgogaaSeqJ
import Derived.WalkKit
import Derived.WalkSpells
import Derived.WalkLawsBesides
import Derived.ProofKit
import Derived.Deep.RegionHeld3
import Derived.BigQuiet
namespace Go.Proofs.Ytfogphljilgogaa
open Go.RowKit

variable (qa : Option Addr) (qc : Nat) (ss : List StA) (n m : Int)

set_option maxRecDepth 100000 in
set_option maxHeartbeats 1000000 in
theorem seqTrue_bad (w : World) (hS : IsSt w qa ss) (hsl : ss.length ≤ maxLen) (hE : ¬ chkS ss = 0) :
    Calls Try.prog 10 #[.slice qa ss.length qc, .int .i64 n, .int .i64 m] w fun e w' => e = .returned (.bool true) ∧ Below w.heap.size w w' := by
  have CM : Hid (Calls Try.prog 32 #[.slice qa ss.length qc] w fun e w' => ∃ a c cl, e = .returned (.tuple #[.slice a (List.length cl) c, .int .i64 (chkS ss)]) ∧ IsTxs w' a cl ∧ cl.map TxA.core = (mrg ss).map TxA.core ∧ cl.length ≤ c ∧ (a = none → c = 0) ∧ Below w.heap.size w w') := merge_any qa qc ss w hS hsl
  generalize chkS ss = E at *
  have hne : (E != 0) = true := by simpa using hE
  clear hS hE
  go_enter Try.func10, Try.ntmps10
  go_wp2_with fail
  refine CM.out.mono ?_
  rintro e w1 ⟨a, c, cl, rfl, _, _, _, _, hb1⟩
  clear CM
  go_wp2_with fail
  refine (seqBegun_any _).mono ?_
  rintro e w2 ⟨rfl, hb2⟩
  have B2 : Below w.heap.size w w2 := grow_trans hb1 hb2
  clear hb1 hb2
  go_wp2
  go_ret
  exact ⟨rfl, B2⟩

set_option maxRecDepth 100000 in
set_option maxHeartbeats 1000000 in
theorem seqTrue_nil (w : World) (hS : IsSt w qa ss) (hsl : ss.length ≤ maxLen) (hE : chkS ss = 0) (h0 : mrg ss = []) :
    Calls Try.prog 10 #[.slice qa ss.length qc, .int .i64 n, .int .i64 m] w fun e w' => e = .returned (.bool true) ∧ Below w.heap.size w w' := by
  have CM : Hid (Calls Try.prog 32 #[.slice qa ss.length qc] w fun e w' => ∃ a c, e = .returned (.tuple #[.slice a 0 c, .int .i64 0]) ∧ Below w.heap.size w w') := by
    refine (merge_any qa qc ss w hS hsl).mono ?_
    rintro e w' ⟨a, c, cl, rfl, _, hc, _, _, hb⟩
    rw [h0] at hc
    have : cl = [] := List.eq_nil_of_map_eq_nil hc
    subst this
    rw [hE]
    exact ⟨a, c, rfl, hb⟩
  clear hS hE h0
  go_enter Try.func10, Try.ntmps10
  go_wp2_with fail
  refine CM.out.mono ?_
  rintro e w1 ⟨a, c, rfl, hb1⟩
  clear CM
  go_wp2_with fail
  refine (seqBegun_any _).mono ?_
  rintro e w2 ⟨rfl, hb2⟩
  have B2 : Below w.heap.size w w2 := grow_trans hb1 hb2
  clear hb1 hb2
  go_wp2
  go_ret
  exact ⟨rfl, B2⟩

set_option maxRecDepth 100000 in
theorem choose_wide (c : Int) (n : Nat) (w : World) (hc : (Lit.int .i64 c).wf = true) (hn : 0 < n) (hn' : n ≤ 1000) :
    Calls Try.prog 20 #[.int .i64 c, .int .i64 n] w fun e w' => ∃ k : Nat, k < n ∧ e = .returned (.int .i64 k) ∧ w' = w := by
  obtain ⟨c1, c2⟩ := wf_bounds hc
  clear hc
  by_cases h : c < 0
  · go_enter Try.func20, Try.ntmps20
    go_wp2
    go_ret
    have h1 : 0 ≤ (-(c + 1)) % (n : Int) := Int.emod_nonneg _ (by omega)
    have h2 : (-(c + 1)) % (n : Int) < n := Int.emod_lt_of_pos _ (by omega)
    refine ⟨((-(c + 1)) % (n : Int)).toNat, by omega, ?_, rfl⟩
    show Ending.returned (Value.int .i64 (-(c + 1).tmod ↑n)) = _
    rw [Int.toNat_of_nonneg h1, ← Int.neg_tmod, Int.tmod_eq_emod_of_nonneg (by omega)]
  · go_enter Try.func20, Try.ntmps20
    go_wp2
    go_ret
    have h1 : 0 ≤ c % (n : Int) := Int.emod_nonneg _ (by omega)
    have h2 : c % (n : Int) < n := Int.emod_lt_of_pos _ (by omega)
    exact ⟨(c % (n : Int)).toNat, by omega, by show Ending.returned (Value.int .i64 (c % (n : Int))) = _; rw [Int.toNat_of_nonneg h1], rfl⟩

/-- What From tells of one that is there: a batch that is there, and one of its transactions. -/
theorem frm_at {ss : List StA} (hE : chkS ss = 0) (k : Nat) (h : k < (mrg ss).length) :
    ∃ (x : EvA) (j : Nat), frmO ss k = some (x.s, x.e, (j : Int)) ∧ frmR ss k = 0 ∧ At (evs ss) k x j ∧ j < x.b.l.length := by
  have e1 : mrg ss = mergedX (evs ss) := if_pos hE
  rw [e1] at h
  obtain ⟨x, j, hs, hat⟩ := seek_at (evs ss) k (by omega) (by omega)
  have hat' := hat
  obtain ⟨_, _, _, h0, h1, _⟩ := hat'
  obtain ⟨j', rfl⟩ := Int.eq_ofNat_of_zero_le h0
  have e2 : fromO ss k = seek (evs ss) k := if_neg (by omega)
  refine ⟨x, j', ?_, ?_, hat, by omega⟩
  · rw [frmO, if_pos hE, e2, hs]
  · rw [frmR, if_pos hE, e2, hs]
    rfl

theorem at_same {es : List EvA} {n k j : Int} {x y : EvA} (hx : At es n x k) (hy : At es n y j) : x = y ∧ k = j := by
  obtain ⟨p, t, he, h0, h1, hn⟩ := hx
  obtain ⟨q, r, he', g0, g1, hm⟩ := hy
  rw [he] at he'
  rcases List.append_eq_append_iff.1 he' with ⟨a, e1, e2⟩ | ⟨a, e1, e2⟩
  · cases a with
    | nil =>
      rw [List.append_nil] at e1
      rw [List.nil_append] at e2
      injection e2 with e2 e3
      subst e1 e2
      exact ⟨rfl, by omega⟩
    | cons z a =>
      rw [List.cons_append] at e2
      injection e2 with e2 e3
      subst e2
      rw [e1, mergedX_app, mergedX_cons, List.length_append, List.length_append] at hm
      omega
  · cases a with
    | nil =>
      rw [List.append_nil] at e1
      rw [List.nil_append] at e2
      injection e2 with e2 e3
      subst e1 e2
      exact ⟨rfl, by omega⟩
    | cons z a =>
      rw [List.cons_append] at e2
      injection e2 with e2 e3
      subst e2
      rw [e1, mergedX_app, mergedX_cons, List.length_append, List.length_append] at hn
      omega
theorem one_txs {w : World} {b off : Nat} {l : List TxA} (h : IsTxs w (some ⟨b, off, none⟩) l) (k : Nat) (hk : k < l.length) : IsTxs w (some ⟨b, off + k * 3, none⟩) [l.getD k x0] := by
  have h1 := isTxs_take (isTxs_drop h k) 1
  have e : (l.drop k).take 1 = [l.getD k x0] := by
    rw [drop_get l k x0 hk]
    rfl
  rw [e] at h1
  exact h1

set_option maxRecDepth 100000 in
set_option maxHeartbeats 4000000 in
theorem seqTrue_ok (w : World) (hS : IsSt w qa ss) (hsl : ss.length ≤ maxLen) (hE : chkS ss = 0) (hne : 0 < (mrg ss).length) (hn : (Lit.int .i64 n).wf = true) (hm : (Lit.int .i64 m).wf = true) :
    Calls Try.prog 10 #[.slice qa ss.length qc, .int .i64 n, .int .i64 m] w fun e w' => e = .returned (.bool true) ∧ Below w.heap.size w w' := by
  have h3 := chkS_three hE
  have hlen : (mrg ss).length ≤ 144 := by
    have e1 : mrg ss = mergedX (evs ss) := if_pos hE
    rw [e1]
    have h18 := evs_len ss h3
    have h8 : ∀ es : List EvA, (∀ x ∈ es, x.b.l.length ≤ 8) → (mergedX es).length ≤ 8 * es.length := fun es => by
      induction es with
      | nil => intro _; exact Nat.le_refl _
      | cons x t ih =>
        intro hx
        rw [mergedX_cons, List.length_append, List.length_cons]
        have := hx x (List.mem_cons_self)
        have := ih (fun y hy => hx y (List.mem_cons_of_mem _ hy))
        omega
    have := h8 (evs ss) (fun x hx => chkL_len ((chkS_zero hE).2 _ (evs_allB hx)))
    omega
  have CM : Hid (∀ w, IsSt w qa ss → Calls Try.prog 32 #[.slice qa ss.length qc] w fun e w' => ∃ b off c cl, e = .returned (.tuple #[.slice (some ⟨b, off, none⟩) (mrg ss).length c, .int .i64 0]) ∧ Hid (IsTxs w' (some ⟨b, off, none⟩) cl) ∧ Hid (cl.map TxA.core = (mrg ss).map TxA.core) ∧ (mrg ss).length ≤ c ∧ Below w.heap.size w w') := fun w hS => by
    refine (merge_any qa qc ss w hS hsl).mono ?_
    rintro e w' ⟨a, c, cl, rfl, h1, h2, h3, h4, hb⟩
    have hl : cl.length = (mrg ss).length := by have := congrArg List.length h2; simpa using this
    obtain ⟨b, off, rfl, _⟩ := h1 0 (by omega)
    rw [hl] at h3 ⊢
    rw [hE]
    exact ⟨b, off, c, cl, rfl, h1, h2, h3, hb⟩
  have CF : Hid (∀ (k : Nat) (w : World), k < (mrg ss).length → IsSt w qa ss → Calls Try.prog 33 #[.slice qa ss.length qc, .int .i64 k] w fun e w' => ∃ (x : EvA) (j : Nat), e = .returned (.tuple #[.int .i64 x.s, .int .i64 x.e, .int .i64 j, .int .i64 0]) ∧ Hid (At (evs ss) k x j) ∧ Hid (j < x.b.l.length) ∧ Below w.heap.size w w') := fun k w hk hS => by
    obtain ⟨x, j, e1, e2, hat, hj⟩ := frm_at hE k hk
    have h := from_any qa qc ss k w hS hsl (by omega)
    rw [e1, e2] at h
    exact h.mono fun e w' ⟨h1, h2⟩ => ⟨x, j, h1, hat, hj, h2⟩
  have CH : Hid (∀ (c : Int) w', (Lit.int .i64 c).wf = true → Calls Try.prog 20 #[.int .i64 c, .int .i64 ((mrg ss).length : Int)] w' fun e w'' => ∃ k : Nat, k < (mrg ss).length ∧ e = .returned (.int .i64 k) ∧ w'' = w') := fun c w' hc => by
    exact choose_wide c (mrg ss).length w' hc hne (by omega)
  have HS : Hid (IsSt w qa ss) := hS
  have HMR : Hid (mrg ss = mergedX (evs ss)) := if_pos hE
  have HEV : Hid (∀ x, x ∈ evs ss → chkL x.b.l = 0) := fun x hx => (chkS_zero hE).2 _ (evs_allB hx)
  have HSO : Hid ((evs ss).Pairwise EvLt) := evs_sorted ss
  have Hn : Hid ((Lit.int .i64 n).wf = true) := hn
  have Hm : Hid ((Lit.int .i64 m).wf = true) := hm
  clear hS hE hn hm
  unfold maxLen at hsl
  have HMEM : Hid (∀ x, x ∈ evs ss → ∃ k, k < ss.length ∧ x.s = k ∧ x.e < (ss.getD k st0).bs.length ∧ x.b = (ss.getD k st0).bs.getD x.e b0 ∧ x.e < 6) := fun x hx => evs_mem hx
  generalize mrg ss = M at *
  generalize evs ss = es at *
  have hl0 : ((M.length : Int) == 0) = false := beq_eq_false_iff_ne.2 (by omega)
  go_enter Try.func10, Try.ntmps10
  go_wp2_with fail
  refine (CM.out _ HS.out).mono ?_
  rintro e w1 ⟨b, off, c, cl, rfl, hcl, hcc, hlc, hb1⟩
  go_wp2_with fail
  refine (CH.out n _ Hn.out).mono ?_
  rintro e w' ⟨i, hi, rfl, hw'⟩
  rw [hw']
  clear hw' w'
  go_wp2_with fail
  refine (CH.out m _ Hm.out).mono ?_
  rintro e w' ⟨j, hj, rfl, hw'⟩
  rw [hw']
  clear hw' w' CH
  go_wp2_with fail
  refine (CF.out i _ hi (HS.out.below hb1)).mono ?_
  rintro e w2 ⟨x, k, rfl, hat, hk, hb2⟩
  go_wp2_with fail
  refine (CF.out j _ hj (HS.out.below (grow_trans hb1 hb2))).mono ?_
  rintro e w3 ⟨y, k', rfl, hat', hk', hb3⟩
  have B3 : Hid (Below w.heap.size w w3) := grow_trans hb1 (grow_trans hb2 hb3)
  have hcl3 : Hid (IsTxs w3 (some ⟨b, off, none⟩) cl) := hcl.out.below (grow_trans hb2 hb3)
  clear hb1 hb2 hb3 hcl CM CF
  obtain ⟨s0, hs0, hxs, hxe, hxb, _⟩ := HMEM.out x (at_mem hat.out)
  have hx8 := chkL_len (HEV.out x (at_mem hat.out))
  have HCX : Hid (chkL x.b.l = 0) := HEV.out x (at_mem hat.out)
  have HCE : Hid ((cl.getD i x0).core = (x.b.l.getD k x0).core) := by
    show _ = _
    rw [core_at hcc.out i, HMR.out]
    have h := at_get hat.out
    simp at h
    rw [List.getD_eq_getElem?_getD, List.getD_eq_getElem?_getD, h]
  have hcll : cl.length = M.length := by have := congrArg List.length hcc.out; simpa using this
  have HXS : Hid (x.s = s0) := hxs
  obtain ⟨b1, off1, rfl, _, c0, hbs, _⟩ := HS.out s0 hs0
  obtain ⟨b2, off2, hba, _, c1, htx, _, htc⟩ := hbs x.e hxe
  rw [← hxb] at c1 htx htc
  rw [hba] at c0
  have d0 := ext_cell B3.out c0
  have d1 := ext_cell B3.out c1
  have HT : Hid (IsTxs w3 x.b.a x.b.l) := htx.below B3.out
  clear c0 c1 htx hbs hba hxb hcc HEV HMEM HMR
  generalize (ss.getD s0 st0).bs.length = nb at *
  generalize (ss.getD s0 st0).c = cb at *
  have hlex : Hid ((i = j → x.s = y.s ∧ x.e = y.e ∧ k = k') ∧ (i < j → EvLt x y ∨ (x.e = y.e ∧ x.s = y.s ∧ (k : Int) < k')) ∧ (j < i → EvLt y x ∨ (y.e = x.e ∧ y.s = x.s ∧ (k' : Int) < k))) := by
    refine ⟨fun h => ?_, fun h => at_lt HSO.out hat.out hat'.out (by omega), fun h => at_lt HSO.out hat'.out hat.out (by omega)⟩
    subst h
    obtain ⟨e1, e2⟩ := at_same hat.out hat'.out
    subst e1
    exact ⟨rfl, rfl, by omega⟩
  have HLEX : Hid ((i = j → x.s = y.s ∧ x.e = y.e ∧ k = k') ∧ (i < j → x.e < y.e ∨ (x.e = y.e ∧ (x.s < y.s ∨ (x.s = y.s ∧ k < k')))) ∧ (j < i → y.e < x.e ∨ (y.e = x.e ∧ (y.s < x.s ∨ (y.s = x.s ∧ k' < k))))) := by
    obtain ⟨h1, h2, h3⟩ := hlex.out
    refine ⟨h1, fun h => ?_, fun h => ?_⟩
    · rcases h2 h with (h | ⟨h, h'⟩) | ⟨h, h', h''⟩
      · exact .inl h
      · exact .inr ⟨h, .inl h'⟩
      · exact .inr ⟨h, .inr ⟨h', by omega⟩⟩
    · rcases h3 h with (h | ⟨h, h'⟩) | ⟨h, h', h''⟩
      · exact .inl h
      · exact .inr ⟨h, .inl h'⟩
      · exact .inr ⟨h, .inr ⟨h', by omega⟩⟩
  clear hlex hat hat' hk' HSO
  obtain ⟨ys, ye, yb⟩ := y
  obtain ⟨b3, off3, hb3a, _⟩ := HT.out k hk.out
  obtain ⟨xs, xe, xa, xc, xl⟩ := x
  simp only at hb3a d0 d1 hk hxs hxe hx8 htc HCE HXS HLEX HCX
  subst hb3a
  subst hxs
  have hkl : k < xl.length := hk.out
  have HONE : Hid (IsTxs w3 (some ⟨b, off + i * 3, none⟩) [cl.getD i x0]) := one_txs hcl3.out i (by omega)
  have HTWO : Hid (IsTxs w3 (some ⟨b3, off3 + k * 3, none⟩) [xl.getD k x0]) := one_txs HT.out k hkl
  have hsmall : (cl.getD i x0).rs.length ≤ 100 ∧ (cl.getD i x0).gs.length ≤ 100 ∧ (cl.getD i x0).ss.length ≤ 100 := by
    have hc0 := HCE.out
    simp only [TxA.core, Prod.mk.injEq] at hc0
    obtain ⟨q1, q2, q3⟩ := hc0
    have hz := chkL_at HCX.out k hkl
    generalize xl.getD k x0 = z at *
    have hmany : manyE z.rs.length z.gs.length z.ss.length = 0 := by
      by_cases hm : manyE z.rs.length z.gs.length z.ss.length = 0
      · exact hm
      · have h1 := chk_many z.rs z.gs z.ss hm
        have h2 : chkTx z.rs z.gs z.ss = 0 := hz
        omega
    have hms := many_small _ _ _ hmany
    rw [q1, q2, q3]
    omega
  have SS : Hid (∀ w' c1 c2, Below w3.heap.size w3 w' → Calls Try.prog 37 #[.slice (some ⟨b, off + i * 3, none⟩) 1 c1, .slice (some ⟨b3, off3 + k * 3, none⟩) 1 c2] w' fun e w'' => e = .returned (.bool true) ∧ Below w'.heap.size w' w'') := fun w' c1 c2 h => by
    have h1 := sameTxns_eq [cl.getD i x0] [xl.getD k x0] (some ⟨b, off + i * 3, none⟩) (some ⟨b3, off3 + k * 3, none⟩) c1 c2 w' (by simp only [List.map_cons, List.map_nil]; rw [HCE.out]) (by simp) (fun z hz => by simp only [List.mem_singleton] at hz; subst hz; exact hsmall) (HONE.out.below h) (HTWO.out.below h)
    exact h1
  clear HCE HT hcl3 hk hsmall HONE HTWO
  have f1 : ¬ (xs : Int) < 0 := by omega
  have f2 : ¬ (ss.length : Int) ≤ (xs : Int) := by omega
  have f3 : ¬ (xe : Int) < 0 := by omega
  have f4 : ¬ (nb : Int) ≤ (xe : Int) := by omega
  have f5 : ¬ (k : Int) < 0 := by omega
  have f6 : ¬ (xl.length : Int) ≤ (k : Int) := by omega
  have g1 : (0 : Int) ≤ (xs : Int) := by omega
  have g2 : (xs : Int) < (ss.length : Int) := by omega
  have g3 : (0 : Int) ≤ (xe : Int) := by omega
  have g4 : (xe : Int) < (nb : Int) := by omega
  have i1 : IntKind.i64.wrap ((i : Int) + 1) = (i : Int) + 1 := IntWalk.i64_in _ (by omega)
  have i2 : ((i : Int) + 1).toNat = i + 1 := by omega
  have i3 : (0 : Int) ≤ (i : Int) := by omega
  have i4 : (i : Int) ≤ (i : Int) + 1 := by omega
  have i5 : (i : Int) + 1 ≤ (c : Int) := by omega
  have i6 : ¬ c = i := by omega
  have j1 : IntKind.i64.wrap ((k : Int) + 1) = (k : Int) + 1 := IntWalk.i64_in _ (by omega)
  have j2 : ((k : Int) + 1).toNat = k + 1 := by omega
  have j3 : (0 : Int) ≤ (k : Int) := by omega
  have j4 : (k : Int) ≤ (k : Int) + 1 := by omega
  have j5 : (k : Int) + 1 ≤ (xc : Int) := by omega
  have j6 : ¬ xc = k := by omega
  have KS : Hid (∀ w', Below w3.heap.size w3 w' → w'.cell? ⟨b1, off1 + xs, none⟩ = some (.slice (some ⟨b2, off2, none⟩) nb cb) ∧ w'.cell? ⟨b2, off2 + xe, none⟩ = some (.slice (some ⟨b3, off3, none⟩) xl.length xc) ∧ Hid (Below w3.heap.size w3 w')) := fun w' h => ⟨ext_cell h d0, ext_cell h d1, h⟩
  go_wp2_with fail
  go_region_held3 (fun w' => w'.cell? ⟨b1, off1 + xs, none⟩ = some (.slice (some ⟨b2, off2, none⟩) nb cb) ∧ w'.cell? ⟨b2, off2 + xe, none⟩ = some (.slice (some ⟨b3, off3, none⟩) xl.length xc) ∧ Hid (Below w3.heap.size w3 w')) ((refine KS.out _ ?_; go_split_ands; repeat (first | assumption | exact Below.refl _ _ | exact Hid.out (by assumption) | refine grow_drew ?_ | refine grow_alloc ?_ _ | refine grow_trans ?_ (by assumption))))
    (first
      | (go_at_call 37; refine (SS.out _ _ _ ?_).mono ?_; (go_split_ands; exact Hid.out (by assumption)); rintro e w4 ⟨rfl, hb4⟩))
  obtain ⟨_, _, hC⟩ := (‹_ ∧ _ ∧ Hid (Below w3.heap.size w3 w4)› : w4.cell? ⟨b1, off1 + xs, none⟩ = some (.slice (some ⟨b2, off2, none⟩) nb cb) ∧ w4.cell? ⟨b2, off2 + xe, none⟩ = some (.slice (some ⟨b3, off3, none⟩) xl.length xc) ∧ Hid (Below w3.heap.size w3 w4))
  have B4 : Hid (Below w.heap.size w w4) := grow_trans B3.out hC.out
  clear hC hb4 KS SS B3 d0 d1 i1 i2 i3 i4 i5 i6 j1 j2 j3 j4 j5 j6 f1 f2 f3 f4 f5 f6 g1 g2 g3 g4 HCX
  obtain ⟨x1, x2, x3⟩ := HLEX.out
  clear HLEX
  rcases Nat.lt_trichotomy i j with hij | hij | hij
  · have hl := x2 hij
    clear x1 x2 x3
    have n1 : ((i : Int) == (j : Int)) = false := beq_eq_false_iff_ne.2 (by omega)
    have n2 : (i : Int) < (j : Int) := by omega
    clear hij
    rcases hl with h | ⟨he, h | ⟨h, h'⟩⟩
    ·
      have m1 : (xe : Int) < (ye : Int) := by omega
      clear h
      go_wp2_with fail
      refine (seqBegun_any _).mono ?_
      rintro e w5 ⟨rfl, hb5⟩
      have B5 : Below w.heap.size w w5 := grow_trans B4.out hb5
      clear hb5 B4
      go_wp2
      go_ret
      exact ⟨rfl, B5⟩
    ·
      subst he
      have m1 : ¬ (xe : Int) < (xe : Int) := by omega
      have m2 : (xs : Int) < (ys : Int) := by omega
      clear h
      go_wp2_with fail
      refine (seqBegun_any _).mono ?_
      rintro e w5 ⟨rfl, hb5⟩
      have B5 : Below w.heap.size w w5 := grow_trans B4.out hb5
      clear hb5 B4
      go_wp2
      go_ret
      exact ⟨rfl, B5⟩
    ·
      subst he
      subst h
      have m1 : ¬ (xe : Int) < (xe : Int) := by omega
      have m2 : ¬ (xs : Int) < (xs : Int) := by omega
      have m3 : (k : Int) < (k' : Int) := by omega
      clear h'
      go_wp2_with fail
      refine (seqBegun_any _).mono ?_
      rintro e w5 ⟨rfl, hb5⟩
      have B5 : Below w.heap.size w w5 := grow_trans B4.out hb5
      clear hb5 B4
      go_wp2
      go_ret
      exact ⟨rfl, B5⟩
  · subst hij
    obtain ⟨rfl, rfl, rfl⟩ := x1 rfl
    clear x2 x3
    go_wp2_with fail
    refine (seqBegun_any _).mono ?_
    rintro e w5 ⟨rfl, hb5⟩
    have B5 : Below w.heap.size w w5 := grow_trans B4.out hb5
    clear hb5 B4
    go_wp2
    go_ret
    exact ⟨rfl, B5⟩
  · have hl := x3 hij
    clear x1 x2 x3
    have n1 : ((i : Int) == (j : Int)) = false := beq_eq_false_iff_ne.2 (by omega)
    have n2 : ¬ (i : Int) < (j : Int) := by omega
    clear hij
    rcases hl with h | ⟨he, h | ⟨h, h'⟩⟩
    ·
      have m1 : ¬ (xe : Int) < (ye : Int) := by omega
      have m2 : ((xe : Int) == (ye : Int)) = false := beq_eq_false_iff_ne.2 (by omega)
      clear h
      go_wp2_with fail
      refine (seqBegun_any _).mono ?_
      rintro e w5 ⟨rfl, hb5⟩
      have B5 : Below w.heap.size w w5 := grow_trans B4.out hb5
      clear hb5 B4
      go_wp2
      go_ret
      exact ⟨by simp; omega, B5⟩
    ·
      subst he
      have m1 : ¬ (ye : Int) < (ye : Int) := by omega
      have m2 : ¬ (xs : Int) < (ys : Int) := by omega
      have m3 : ((xs : Int) == (ys : Int)) = false := beq_eq_false_iff_ne.2 (by omega)
      clear h
      go_wp2_with fail
      refine (seqBegun_any _).mono ?_
      rintro e w5 ⟨rfl, hb5⟩
      have B5 : Below w.heap.size w w5 := grow_trans B4.out hb5
      clear hb5 B4
      go_wp2
      go_ret
      exact ⟨by simp; omega, B5⟩
    ·
      subst he
      subst h
      have m1 : ¬ (ye : Int) < (ye : Int) := by omega
      have m2 : ¬ (ys : Int) < (ys : Int) := by omega
      have m3 : ¬ (k : Int) < (k' : Int) := by omega
      clear h'
      go_wp2_with fail
      refine (seqBegun_any _).mono ?_
      rintro e w5 ⟨rfl, hb5⟩
      have B5 : Below w.heap.size w w5 := grow_trans B4.out hb5
      clear hb5 B4
      go_wp2
      go_ret
      exact ⟨by simp; omega, B5⟩
end Go.Proofs.Ytfogphljilgogaa
