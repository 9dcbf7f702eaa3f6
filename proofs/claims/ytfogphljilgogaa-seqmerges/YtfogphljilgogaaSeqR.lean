/-
  The document's own merging of batches: what it answers.
  Conditions: the batches can be read; none is long, if the count is not.
-/
import Derived.Test.YtfogphljilgogaaSeqQ
import Derived.WalkKit
import Derived.WalkSpells
import Derived.WalkLawsBesides
import Derived.ProofKit
import Derived.Deep.RegionHeld3
import Derived.BigQuiet
namespace Go.Proofs.Ytfogphljilgogaa
open Go.RowKit

variable (qa : Option Addr) (qc : Nat) (ss : List StA)

theorem mergedX_few : ∀ es : List EvA, (∀ x ∈ es, x.b.l.length ≤ 8) → (mergedX es).length ≤ 8 * es.length
  | [], _ => Nat.le_refl _
  | x :: t, h => by
    have h1 := mergedX_few t (fun y hy => h y (List.mem_cons_of_mem _ hy))
    have h2 := h x (List.mem_cons_self)
    rw [mergedX_cons, List.length_append, List.length_cons]
    omega

set_option maxRecDepth 100000 in
set_option maxHeartbeats 4000000 in
theorem merged_few (w : World) (hS : IsSt w qa ss) (hsl : ss.length ≤ maxLen) (hT : tooManyV ss = false) (hF : Few ss) :
    Calls Try.prog 64 #[.slice qa ss.length qc] w fun e w' => ∃ v u, e = .returned (.tuple #[v, u, .int .i64 (chkS ss)]) ∧ Two w.heap.size w' v u (mrg ss) (tagsOf ss) ∧ Below w.heap.size w w' := by
  unfold maxLen at hsl
  have HS : Hid (IsSt w qa ss) := hS
  have HMR : Hid (mrg ss = if chkS ss = 0 then mergedX (evs ss) else []) := rfl
  have HTG : Hid (tagsOf ss = if chkS ss = 0 then tagsX (evs ss) else []) := rfl
  have HE0 : Hid (chkS ss = firstNZ ((flatB (allB (ss.drop 0))).map chkX)) := chkS_few hF hT
  have hT' := hT
  unfold tooManyV at hT'
  rw [Bool.or_eq_false_iff, Bool.or_eq_false_iff] at hT'
  obtain ⟨⟨h3, h6⟩, h8⟩ := hT'
  have h3' : ¬ (3 : Int) < (ss.length : Int) := by have := of_decide_eq_false h3; omega
  have h8' : ¬ (8 : Int) < wsum (allB ss) := of_decide_eq_false h8
  have H6 : Hid (∀ k, k < ss.length → ¬ 6 < (ss.getD k st0).bs.length) := fun k hk h => by
    have h1 := List.any_eq_false.1 h6 (ss.getD k st0) (by simp [List.getD, hk])
    exact h1 (decide_eq_true h)
  have HTOT : Hid ((mergedX (evs ss)).length ≤ 144) := by
    have h1 := evs_len ss (by have := of_decide_eq_false h3; omega)
    have h2 := mergedX_few (evs ss) (fun x hx => hF hT _ (evs_allB hx))
    show _ ≤ _
    omega
  generalize chkS ss = E at *
  clear hS hT h3 h6 h8 hF
  have H8 : Hid (¬ (8 : Int) < wsum (allB ss)) := h8'
  clear h8'
  go_enter Try.func64, Try.ntmps64
  go_wp2
  go_loopw [5, 6, 7] (fun t i _ wr => ∃ k : Nat, k ≤ ss.length ∧ i = .int .i64 k ∧ t = .int .i64 (wsum (allB (ss.take k))) ∧ w = wr) (fun _ i _ _ => ss.length - (intOf i).toNat)
  case atStart => exact ⟨0, Nat.zero_le _, rfl, rfl, rfl⟩
  case round =>
    obtain ⟨k, hk, rfl, rfl, rfl⟩ := hrel
    by_cases hlt : k < ss.length
    · obtain ⟨b, off, rfl, _, c0, hbs, hbl⟩ := HS.out k hlt
      have HBS : Hid (IsBs w (ss.getD k st0).a (ss.getD k st0).bs) := hbs
      have HT : Hid (allB (ss.take (k + 1)) = allB (ss.take k) ++ (ss.getD k st0).bs) := allB_take ss k hlt
      have k1 : (0 : Int) ≤ (k : Int) := by omega
      have k2 : (k : Int) < (ss.length : Int) := by omega
      have HSB : Hid ((ss.getD k st0).bs = (ss.getD k st0).bs) := rfl
      clear hbs
      unfold maxLen at hbl
      generalize hgs : ss.getD k st0 = s at *
      obtain ⟨sa, sc, bs⟩ := s
      simp only at c0 hbl HT HBS
      have h6 : ¬ 6 < bs.length := by
        have h := H6.out k hlt
        rw [hgs] at h
        exact h
      have h6' : ¬ (6 : Int) < (bs.length : Int) := by omega
      clear hgs HSB

      go_wp2
      go_loopw [5, 7] (fun t i wx => ∃ j : Nat, j ≤ bs.length ∧ i = .int .i64 j ∧ t = .int .i64 (wsum (allB (ss.take k) ++ bs.take j)) ∧ w = wx) (fun _ i _ => bs.length - (intOf i).toNat)
      case atStart => exact ⟨0, Nat.zero_le _, rfl, by simp, rfl⟩
      case round =>
        obtain ⟨j, hj, rfl, rfl, rfl⟩ := hrel
        by_cases hlt2 : j < bs.length
        · obtain ⟨b', off', rfl, _, e0, _⟩ := HBS.out j hlt2
          have HTj : Hid (wsum (allB (ss.take k) ++ bs.take (j + 1)) = wrap64 (wsum (allB (ss.take k) ++ bs.take j) + (bs.getD j b0).l.length)) := by
            show _ = _
            rw [bt_take bs j hlt2, ← List.append_assoc]
            exact wsum_snoc _ _
          generalize wsum (allB (ss.take k) ++ bs.take j) = T at *
          generalize (bs.getD j b0).l.length = len at *
          have j1 : (0 : Int) ≤ (j : Int) := by omega
          have j2 : (j : Int) < (bs.length : Int) := by omega
          go_wp2
          go_roundw
          case rel => exact ⟨j + 1, by omega, by go_num, by rw [HTj.out], trivial⟩
          case measure => simp [intOf]; omega
        · have hjj : j = bs.length := by omega
          have HTk : Hid (wsum (allB (ss.take (k + 1))) = wsum (allB (ss.take k) ++ bs.take j)) := by
            show _ = _
            rw [HT.out, hjj, List.take_of_length_le (Nat.le_refl _)]
          generalize wsum (allB (ss.take k) ++ bs.take j) = T at *
          clear hjj
          go_wp2
          go_roundw
          case rel => exact ⟨k + 1, by omega, by go_num, by rw [HTk.out], trivial⟩
          case measure => simp [intOf]; omega
    · have hkk : k = ss.length := by omega
      rw [hkk, List.take_of_length_le (Nat.le_refl _)]
      clear hkk hk hlt
      have h8' := H8.out
      generalize wsum (allB ss) = T at *
      clear H8 H6

      go_wp2
      go_loopw [8, 9, 10, 11] (fun s _ _ _ wx => ∃ k : Nat, k ≤ ss.length ∧ s = .int .i64 k ∧ Hid (E = firstNZ ((flatB (allB (ss.drop k))).map chkX)) ∧ Hid (Below w.heap.size w wx)) (fun s _ _ _ _ => ss.length - (intOf s).toNat)
      case atStart => exact ⟨0, Nat.zero_le _, rfl, HE0, Below.refl _ _⟩
      case round =>
        clear HE0
        obtain ⟨k, hk, rfl, hno, hB⟩ := hrel
        have k1 : (0 : Int) ≤ (k : Int) := by omega
        by_cases hlt : k < ss.length
        · obtain ⟨b, off, rfl, _, c0, hbs, hbl⟩ := HS.out k hlt
          have k2 : (k : Int) < (ss.length : Int) := by omega
          have HBS : Hid (IsBs w (ss.getD k st0).a (ss.getD k st0).bs) := hbs
          have HC0 : Hid (w.cell? ⟨b, off + k, none⟩ = some (.slice (ss.getD k st0).a (ss.getD k st0).bs.length (ss.getD k st0).c)) := c0
          have HD : Hid (E = firstNZ ((flatB ((ss.getD k st0).bs.drop 0) ++ flatB (allB (ss.drop (k + 1)))).map chkX)) := by
            show _ = _
            rw [hno.out, drop_get ss k st0 hlt, List.drop_zero, ← flatB_app]
            rfl
          clear c0 hbs hno
          unfold maxLen at hbl
          generalize hR : flatB (allB (ss.drop (k + 1))) = R at *
          have HR : Hid (flatB (allB (ss.drop (k + 1))) = R) := hR
          clear hR
          generalize ss.getD k st0 = s at *
          obtain ⟨sa, sc, bs⟩ := s
          simp only at hbl HBS HC0 HD
          go_wp2
          go_loopw [9, 10, 11] (fun i _ _ wx => ∃ j : Nat, j ≤ bs.length ∧ i = .int .i64 j ∧ Hid (E = firstNZ ((flatB (bs.drop j) ++ R).map chkX)) ∧ Hid (Below w.heap.size w wx)) (fun i _ _ _ => bs.length - (intOf i).toNat)
          case atStart => exact ⟨0, Nat.zero_le _, rfl, HD, hB⟩
          case round =>
            clear HD hB
            obtain ⟨j, hj, rfl, hno, hB⟩ := hrel
            have d0 := ext_cell hB.out HC0.out
            have j1 : (0 : Int) ≤ (j : Int) := by omega
            by_cases hlt2 : j < bs.length
            · have j2 : (j : Int) < (bs.length : Int) := by omega
              obtain ⟨b', off', rfl, _, e0, htx, htl, _⟩ := HBS.out j hlt2
              have HTX : Hid (IsTxs w (bs.getD j b0).a (bs.getD j b0).l) := htx
              have HC1 : Hid (w.cell? ⟨b', off' + j, none⟩ = some (.slice (bs.getD j b0).a (bs.getD j b0).l.length (bs.getD j b0).c)) := e0
              have f0 := ext_cell hB.out HC1.out
              have HD2 : Hid (E = firstNZ (((bs.getD j b0).l.drop 0 ++ (flatB (bs.drop (j + 1)) ++ R)).map chkX)) := by
                show _ = _
                rw [hno.out, drop_get bs j b0 hlt2, List.drop_zero, ← List.append_assoc]
                rfl
              clear e0 htx hno
              unfold maxLen at htl
              generalize hR2 : flatB (bs.drop (j + 1)) ++ R = R2 at *
              have HR2 : Hid (flatB (bs.drop (j + 1)) ++ R = R2) := hR2
              clear hR2
              generalize bs.getD j b0 = bt at *
              obtain ⟨ba, bc, l⟩ := bt
              simp only at htl HTX HC1 HD2 f0
              go_wp2
              go_loopw [10, 11] (fun i _ wy => ∃ n : Nat, n ≤ l.length ∧ i = .int .i64 n ∧ Hid (E = firstNZ ((l.drop n ++ R2).map chkX)) ∧ Hid (Below w.heap.size w wy)) (fun i _ _ => l.length - (intOf i).toNat)
              case atStart => exact ⟨0, Nat.zero_le _, rfl, HD2, hB⟩
              case round =>
                clear HD2 hB d0 f0
                obtain ⟨n, hn, rfl, hno, hB⟩ := hrel
                have d0 := ext_cell hB.out HC0.out
                have f0 := ext_cell hB.out HC1.out
                have n1 : (0 : Int) ≤ (n : Int) := by omega
                by_cases hlt3 : n < l.length
                · have n2 : (n : Int) < (l.length : Int) := by omega
                  obtain ⟨b2, off2, rfl, _, t0, t1, t2, hx⟩ := HTX.out n hlt3
                  have g0 := ext_cell hB.out t0
                  have g1 := ext_cell hB.out t1
                  have g2 := ext_cell hB.out t2
                  have HX : Hid (IsX wr (l.getD n x0)) := hx.below hB.out
                  have hs : Hid (E = if chkX (l.getD n x0) = 0 then firstNZ ((l.drop (n + 1) ++ R2).map chkX) else chkX (l.getD n x0)) := by
                    show _ = _
                    rw [hno.out, drop_get l n x0 hlt3]
                    rfl
                  clear t0 t1 t2 hx hno
                  generalize (l.getD n x0) = x at *
                  obtain ⟨ra, ga, ta, rc, gc, tc, rs, gs, ts⟩ := x
                  simp only at g0 g1 g2
                  by_cases hE : chkTx rs gs ts = 0
                  · have HN : Hid (E = firstNZ ((l.drop (n + 1) ++ R2).map chkX)) := hs.out.trans (if_pos hE)
                    have HE : Hid (chkTx rs gs ts = 0) := hE
                    clear hs hE
                    go_wp2_with fail
                    refine (checkTxn_any ra ga ta rc gc tc rs gs ts _ (HX.out.t.below (by repeat (first | assumption | exact Below.refl _ _ | refine grow_drew ?_ | refine grow_alloc ?_ _ | refine grow_trans ?_ (by assumption))))).mono ?_
                    rintro e W ⟨rfl, hbW⟩
                    rw [HE.out]
                    have RB : Hid (Below w.heap.size w W) := grow_trans hB.out hbW
                    clear hbW hB d0 f0 g0 g1 g2 HX
                    go_wp2
                    go_roundw
                    case rel => exact ⟨n + 1, by omega, by go_num, HN, RB⟩
                    case measure => simp [intOf]; omega
                  · have HV : Hid (E = chkTx rs gs ts) := hs.out.trans (if_neg hE)
                    have HNE : Hid (¬ chkTx rs gs ts = 0) := hE
                    have hb' : (chkTx rs gs ts != 0) = true := by simpa using hE
                    clear hs hE
                    go_wp2_with fail
                    refine (checkTxn_any ra ga ta rc gc tc rs gs ts _ (HX.out.t.below (by repeat (first | assumption | exact Below.refl _ _ | refine grow_drew ?_ | refine grow_alloc ?_ _ | refine grow_trans ?_ (by assumption))))).mono ?_
                    rintro e W ⟨rfl, hbW⟩
                    have RB : Hid (Below w.heap.size w W) := grow_trans hB.out hbW
                    clear hbW hB d0 f0 g0 g1 g2 HX
                    go_wp2
                    go_ret3
                    refine ⟨.slice none 0 0, .slice none 0 0, by rw [HV.out]; rfl, ?_, RB.out⟩
                    rw [HMR.out, HTG.out, if_neg (by rw [HV.out]; exact HNE.out), if_neg (by rw [HV.out]; exact HNE.out)]
                    exact two_nil _ _
                · have hnn : n = l.length := by omega
                  have n2 : ¬ (n : Int) < (l.length : Int) := by omega
                  have HN : Hid (E = firstNZ ((flatB (bs.drop (j + 1)) ++ R).map chkX)) := by
                    show _ = _
                    rw [hno.out, hnn, List.drop_of_length_le (Nat.le_refl _), List.nil_append, ← HR2.out]
                  clear hno hnn
                  go_wp2
                  go_roundw
                  case rel => exact ⟨j + 1, by omega, by go_num, HN, hB⟩
                  case measure => simp [intOf]; omega
            · have hjj : j = bs.length := by omega
              have j2 : ¬ (j : Int) < (bs.length : Int) := by omega
              have HN : Hid (E = firstNZ ((flatB (allB (ss.drop (k + 1)))).map chkX)) := by
                show _ = _
                rw [hno.out, hjj, List.drop_of_length_le (Nat.le_refl _), HR.out]
                rfl
              clear hno hjj
              go_wp2
              go_roundw
              case rel => exact ⟨k + 1, by omega, by go_num, HN, hB⟩
              case measure => simp [intOf]; omega
        · have hkk : k = ss.length := by omega
          have k2 : ¬ (k : Int) < (ss.length : Int) := by omega
          have HZ : Hid (E = 0) := by
            show _ = _
            rw [hno.out, hkk, List.drop_of_length_le (Nat.le_refl _)]
            rfl
          clear hno hkk hk hlt k1
          go_wp2
          go_loopw [12, 13, 14, 15, 16] (fun v u i _ _ wx => ∃ e : Nat, e ≤ 6 ∧ i = .int .i64 e ∧ Hid (Two w.heap.size wx v u (mergedX (epTo ss e)) (tagsX (epTo ss e))) ∧ Hid (Below w.heap.size w wx)) (fun _ _ i _ _ _ => 6 - (intOf i).toNat)
          case atStart => exact ⟨0, Nat.zero_le _, rfl, two_nil _ _, hB⟩
          case round =>
            clear hB
            obtain ⟨e, he, rfl, hT, hB⟩ := hrel
            have e1 : (0 : Int) ≤ (e : Int) := by omega
            by_cases he6 : e < 6
            · have e6 : (e : Int) < 6 := by omega
              go_wp2
              go_loopw [12, 13, 15, 16] (fun v u i _ wx => ∃ k : Nat, k ≤ ss.length ∧ i = .int .i64 k ∧ Hid (Two w.heap.size wx v u (mergedX (epTo ss e ++ rowTo ss e k)) (tagsX (epTo ss e ++ rowTo ss e k))) ∧ Hid (Below w.heap.size w wx)) (fun _ _ i _ _ => ss.length - (intOf i).toNat)
              case atStart => exact ⟨0, Nat.zero_le _, rfl, by rw [rowTo, List.append_nil]; exact hT, hB⟩
              case round =>
                clear hT hB
                obtain ⟨k, hk, rfl, hT, hB⟩ := hrel
                have k1 : (0 : Int) ≤ (k : Int) := by omega
                by_cases hlt : k < ss.length
                · obtain ⟨b, off, rfl, _, c0, hbs, hbl⟩ := HS.out k hlt
                  have k2 : (k : Int) < (ss.length : Int) := by omega
                  have HBS : Hid (IsBs w (ss.getD k st0).a (ss.getD k st0).bs) := hbs
                  have HC0 : Hid (w.cell? ⟨b, off + k, none⟩ = some (.slice (ss.getD k st0).a (ss.getD k st0).bs.length (ss.getD k st0).c)) := c0
                  have HM : Hid (mergedX (epTo ss e ++ rowTo ss e (k + 1)) = mergedX (epTo ss e ++ rowTo ss e k) ++ part ss e k) := merged_row ss e k
                  have HG : Hid (tagsX (epTo ss e ++ rowTo ss e (k + 1)) = tagsX (epTo ss e ++ rowTo ss e k) ++ tgs k e (part ss e k).length) := tags_row ss e k
                  have HL : Hid ((mergedX (epTo ss e ++ rowTo ss e k)).length + (part ss e k).length ≤ 1000) := by
                    have h1 := merged_le ss e k he6 hlt
                    have h2 := HTOT.out
                    show _ ≤ _
                    omega
                  have HLT : Hid ((tagsX (epTo ss e ++ rowTo ss e k)).length = (mergedX (epTo ss e ++ rowTo ss e k)).length) := tagsX_len _
                  have HPART : Hid (part ss e k = if e < (ss.getD k st0).bs.length then ((ss.getD k st0).bs.getD e b0).l else []) := rfl
                  clear c0 hbs
                  unfold maxLen at hbl
                  generalize mergedX (epTo ss e ++ rowTo ss e k) = M at *
                  generalize tagsX (epTo ss e ++ rowTo ss e k) = TM at *
                  generalize part ss e k = p at *
                  generalize ss.getD k st0 = s at *
                  obtain ⟨sa, sc, bs⟩ := s
                  simp only at hbl HBS HC0 HPART
                  go_wp2
                  go_loopw [12, 13, 16] (fun v u i wy => ∃ n : Nat, n ≤ p.length ∧ i = .int .i64 n ∧ Hid (Two w.heap.size wy v u (M ++ p.take n) (TM ++ (tgs k e p.length).take n)) ∧ Hid (Below w.heap.size w wy)) (fun _ _ i _ => p.length - (intOf i).toNat)
                  case atStart => exact ⟨0, Nat.zero_le _, rfl, by rw [List.take_zero, List.take_zero, List.append_nil, List.append_nil]; exact hT, hB⟩
                  case round =>
                    clear hT hB
                    obtain ⟨n, hn, rfl, hT, hB⟩ := hrel
                    have d0 := ext_cell hB.out HC0.out
                    have n1 : (0 : Int) ≤ (n : Int) := by omega
                    by_cases hbe : e < bs.length
                    · have e2 : (e : Int) < (bs.length : Int) := by omega
                      obtain ⟨b', off', rfl, _, e0, htx, htl, _⟩ := HBS.out e hbe
                      have hp : p = (bs.getD e b0).l := HPART.out.trans (if_pos hbe)
                      have HTX : Hid (IsTxs w (bs.getD e b0).a (bs.getD e b0).l) := htx
                      have f0 := ext_cell hB.out e0
                      clear e0 htx HPART
                      unfold maxLen at htl
                      generalize bs.getD e b0 = bt at *
                      obtain ⟨ba, bc, l⟩ := bt
                      simp only at htl HTX f0 hp
                      subst hp
                      by_cases hlt3 : n < p.length
                      · have n2 : (n : Int) < (p.length : Int) := by omega
                        obtain ⟨b2, off2, rfl, _, t0, t1, t2, hx⟩ := HTX.out n hlt3
                        have g0 := ext_cell hB.out t0
                        have g1 := ext_cell hB.out t1
                        have g2 := ext_cell hB.out t2
                        have HTK : Hid (p.take (n + 1) = p.take n ++ [p.getD n x0]) := take_x p n hlt3
                        have HTG2 : Hid ((tgs k e p.length).take (n + 1) = (tgs k e p.length).take n ++ [(k, e, n)]) := tgs_step k e p.length n hlt3
                        have hl1 : (M ++ p.take n).length ≤ 1000 := by rw [List.length_append, List.length_take]; have := HL.out; omega
                        have hl2 : (TM ++ (tgs k e p.length).take n).length ≤ 1000 := by rw [List.length_append, List.length_take]; have := HL.out; have := HLT.out; omega
                        clear t0 t1 t2 hx
                        generalize hM2 : M ++ p.take n = M2 at *
                        generalize hTM2 : TM ++ (tgs k e p.length).take n = TM2 at *
                        have HM2 : Hid (M ++ p.take n = M2) := hM2
                        have HTM2 : Hid (TM ++ (tgs k e p.length).take n = TM2) := hTM2
                        clear hM2 hTM2
                        generalize (p.getD n x0) = x at *
                        obtain ⟨ra, ga, ta, rc, gc, tc, rs, gs, ts⟩ := x
                        simp only at g0 g1 g2
                        go_wp2_with (first
                          | (at_builtin; refine wpList_append_two (W0 := w) rfl _ _ rfl _ _ M2 TM2 ⟨ra, ga, ta, rc, gc, tc, rs, gs, ts⟩ rfl (hT.out.below (grow_alloc (Below.refl _ _) _)) ⟨wr.heap.size, 0, none⟩ 1 rfl (lies_one wr ⟨ra, ga, ta, rc, gc, tc, rs, gs, ts⟩ _ rfl) hl1 (grow_alloc hB.out _) ?_; intro v' w4 hT4 hB4)
                          | (at_builtin; refine wpList_append_tag (W0 := w) rfl _ _ rfl _ _ _ TM2 (k, e, n) rfl (hT4.below (grow_alloc (Below.refl _ _) _)) ⟨w4.heap.size, 0, none⟩ 1 rfl (lies_tag w4 k e n _ rfl) hl2 (grow_alloc hB4 _) ?_; intro u' w5 hT5 hB5)
                          | go_in)
                        have n1' : Hid (Two w.heap.size w5 v' u' (M ++ p.take (n + 1)) (TM ++ (tgs k e p.length).take (n + 1))) := by
                          show Two _ _ _ _ _ _
                          rw [HTK.out, HTG2.out, ← List.append_assoc, ← List.append_assoc, HM2.out, HTM2.out]
                          exact hT5
                        have hB5' : Hid (Below w.heap.size w w5) := hB5
                        clear hT hB hT4 hB4 hT5 hB5 d0 f0 g0 g1 g2 HTK HTG2
                        go_wp2
                        go_roundw
                        case rel => exact ⟨n + 1, by omega, by go_num, n1', hB5'⟩
                        case measure => simp [intOf]; omega
                      · have hnn : n = p.length := by omega
                        have n2 : ¬ (n : Int) < (p.length : Int) := by omega
                        have HN : Hid (Two w.heap.size wr u12 u13 (mergedX (epTo ss e ++ rowTo ss e (k + 1))) (tagsX (epTo ss e ++ rowTo ss e (k + 1)))) := by
                          have h := hT.out
                          rw [hnn, List.take_of_length_le (Nat.le_refl _), List.take_of_length_le (by rw [tgs_len]; exact Nat.le_refl _)] at h
                          show Two _ _ _ _ _ _
                          rw [HM.out, HG.out]
                          exact h
                        clear hnn hT
                        go_wp2
                        go_roundw
                        case rel => exact ⟨k + 1, by omega, by go_num, HN, hB⟩
                        case measure => simp [intOf]; omega
                    · have e2 : ¬ (e : Int) < (bs.length : Int) := by omega
                      have hp : p = [] := HPART.out.trans (if_neg hbe)
                      subst hp
                      have hnn : n = 0 := by simpa using hn
                      have HN : Hid (Two w.heap.size wr u12 u13 (mergedX (epTo ss e ++ rowTo ss e (k + 1))) (tagsX (epTo ss e ++ rowTo ss e (k + 1)))) := by
                        have h := hT.out
                        rw [hnn, List.take_zero, List.take_zero] at h
                        show Two _ _ _ _ _ _
                        rw [HM.out, HG.out]
                        exact h
                      clear hnn hT
                      go_wp2
                      go_roundw
                      case rel => exact ⟨k + 1, by omega, by go_num, HN, hB⟩
                      case measure => simp [intOf]; omega
                · have hkk : k = ss.length := by omega
                  have k2 : ¬ (k : Int) < (ss.length : Int) := by omega
                  have HN : Hid (Two w.heap.size wr u12 u13 (mergedX (epTo ss (e + 1))) (tagsX (epTo ss (e + 1)))) := by
                    have h := hT.out
                    rw [hkk] at h
                    exact h
                  clear hkk hT
                  go_wp2
                  go_roundw
                  case rel => exact ⟨e + 1, by omega, by go_num, HN, hB⟩
                  case measure => simp [intOf]; omega
            · have e6 : ¬ (e : Int) < 6 := by omega
              have hee : e = 6 := by omega
              have HN : Hid (Two w.heap.size wr u12 u13 (mrg ss) (tagsOf ss)) := by
                have h := hT.out
                rw [hee] at h
                rw [HMR.out, HTG.out, if_pos HZ.out, if_pos HZ.out]
                exact h
              clear hee hT
              go_wp2
              go_ret3
              exact ⟨_, _, by rw [HZ.out]; rfl, HN.out, hB.out⟩
end Go.Proofs.Ytfogphljilgogaa
