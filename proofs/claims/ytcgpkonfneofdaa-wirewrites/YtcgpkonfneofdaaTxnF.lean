/-
  The document's CheckTxn answers the first error of a transaction, in the document's order.
  Conditions: the transaction can be read.
-/
import Derived.Test.YtcgpkonfneofdaaTxnE
import Derived.WalkKit
import Derived.WalkSpells
import Derived.WalkLawsBesides
import Derived.Defers
import Derived.Recover
import Derived.ProofKit
import Derived.Deep.RegionHeld
import Derived.Deep.RegionHeld3
import Derived.BigQuiet
namespace Go.Proofs.Ytcgpkonfneofdaa
open Go.RowKit

set_option maxRecDepth 100000 in
theorem isKey_any (k : Int) (w : World) : Calls Try.prog 112 #[.int .i64 k] w fun e w' => e = .returned (.bool (decide (0 ≤ k) && decide (k ≤ 7))) ∧ w' = w := by
  by_cases h1 : 0 ≤ k
  · have d1 : decide (0 ≤ k) = true := by simpa using h1
    rw [d1]
    go_enter Try.func112, Try.ntmps112
    go_wp2
    go_ret
    exact ⟨rfl, rfl⟩
  · have d1 : decide (0 ≤ k) = false := by simpa using h1
    rw [d1]
    go_enter Try.func112, Try.ntmps112
    go_wp2
    go_ret
    exact ⟨rfl, rfl⟩

set_option maxRecDepth 100000 in
theorem nz_zero (x : Int) (l : List Int) (h : x = 0) : firstNZ (x :: l) = firstNZ l := by rw [firstNZ, if_pos h]
set_option maxRecDepth 100000 in
theorem nz_some (x : Int) (l : List Int) (h : ¬ x = 0) : firstNZ (x :: l) = x := by rw [firstNZ, if_neg h]

set_option maxRecDepth 100000 in
theorem nz3_0 {a b c : Int} (ha : a = 0) (hb : b = 0) (hc : c = 0) : firstNZ [a, b, c] = 0 := by rw [nz_zero _ _ ha, nz_zero _ _ hb, nz_zero _ _ hc]; rfl
set_option maxRecDepth 100000 in
theorem nz3_3 {a b c : Int} (ha : a = 0) (hb : b = 0) (hc : ¬ c = 0) : firstNZ [a, b, c] = c := by rw [nz_zero _ _ ha, nz_zero _ _ hb, nz_some _ _ hc]
set_option maxRecDepth 100000 in
theorem nz3_2 {a b c : Int} (ha : a = 0) (hb : ¬ b = 0) : firstNZ [a, b, c] = b := by rw [nz_zero _ _ ha, nz_some _ _ hb]
set_option maxRecDepth 100000 in
theorem nz3_1 {a b c : Int} (ha : ¬ a = 0) : firstNZ [a, b, c] = a := nz_some _ _ ha
set_option maxRecDepth 100000 in
theorem step_zero {X D D' e : Int} {l : List Int} (h : Hid (X = firstNZ (D :: l))) (hs : Hid (D = if e = 0 then D' else e)) (he : e = 0) : Hid (X = firstNZ (D' :: l)) := by
  have h1 := hs.out
  rw [if_pos he] at h1
  have h2 := h.out
  rw [h1] at h2
  exact h2
set_option maxRecDepth 100000 in
theorem step_some {X D D' e v : Int} {l : List Int} (h : Hid (X = firstNZ (D :: l))) (hs : Hid (D = if e = 0 then D' else e)) (he : e = v) (hv : ¬ v = 0) : Hid (X = v) := by
  have h1 := hs.out
  rw [he, if_neg hv] at h1
  have h2 := h.out
  rw [h1, nz_some _ _ hv] at h2
  exact h2

set_option maxRecDepth 100000 in
theorem nz_flat (a b c d : Int) (l : List Int) : firstNZ (firstNZ [a, b, c, d] :: l) = firstNZ (a :: b :: c :: d :: l) := by
  by_cases ha : a = 0
  · rw [nz_zero a _ ha, nz_zero a _ ha]
    by_cases hb : b = 0
    · rw [nz_zero b _ hb, nz_zero b _ hb]
      by_cases hc : c = 0
      · rw [nz_zero c _ hc, nz_zero c _ hc]
        by_cases hd : d = 0
        · rw [nz_zero d _ hd, nz_zero d _ hd]; exact nz_zero _ _ rfl
        · rw [nz_some d _ hd, nz_some d _ hd]
      · rw [nz_some c _ hc, nz_some c _ hc, nz_some c _ hc]
    · rw [nz_some b _ hb, nz_some b _ hb, nz_some b _ hb]
  · rw [nz_some a _ ha, nz_some a _ ha, nz_some a _ ha]

set_option maxRecDepth 100000 in
theorem chk_flat (rs : List Int) (gs : List Gd) (ss : List St) (hm : manyE rs.length gs.length ss.length = 0) : chkTx rs gs ss = firstNZ [rangeE rs, rangeE (keysOf ss), riseE rs, riseE (keysOf ss), firstNZ (gs.map (gErr rs.length)), firstNZ (ss.map (sErr rs.length))] := by
  unfold chkTx keysE
  rw [nz_zero _ _ hm, nz_flat]

variable (ra ga sa : Option Addr) (rc gc sc : Nat) (rs : List Int) (gs : List Gd) (ss : List St)

set_option maxRecDepth 100000 in
set_option maxHeartbeats 1000000 in
theorem checkTxn_many (w : World) (ht : IsTx w ra ga sa rs gs ss) (hm : ¬ manyE rs.length gs.length ss.length = 0) :
    Calls Try.prog 88 #[.agg #[.slice ra rs.length rc, .slice ga gs.length gc, .slice sa ss.length sc]] w fun e' w' => e' = .returned (.int .i64 (chkTx rs gs ss)) ∧ Below w.heap.size w w' := by
  rw [chk_many rs gs ss hm]
  obtain ⟨_, _, _, hlr, hlg, hls⟩ := ht
  unfold maxLen at hlr hlg hls
  generalize rs.length = r at *
  generalize gs.length = g at *
  generalize ss.length = s at *
  by_cases h1 : 4 < r
  · have b1 : (4 : Int) < (r : Int) := by omega
    go_enter Try.func88, Try.ntmps88
    go_wp2
    go_ret
    exact ⟨rfl, grow_alloc (Below.refl _ _) _⟩
  · by_cases h2 : 2 < g
    · have b1 : ¬ (4 : Int) < (r : Int) := by omega
      have b2 : (2 : Int) < (g : Int) := by omega
      go_enter Try.func88, Try.ntmps88
      go_wp2
      go_ret
      exact ⟨rfl, grow_alloc (Below.refl _ _) _⟩
    · have b1 : ¬ (4 : Int) < (r : Int) := by omega
      have b2 : ¬ (2 : Int) < (g : Int) := by omega
      by_cases h3 : 1 ≤ s
      · have h4 : 3 < s := by
          by_cases c : 3 < s
          · exact c
          · exact absurd (if_neg (by omega) : manyE r g s = 0) hm
        have d1 : decide ((1 : Int) ≤ (s : Int)) = true := by simp; omega
        have d2 : decide ((s : Int) ≤ (3 : Int)) = false := by simp; omega
        go_enter Try.func88, Try.ntmps88
        go_wp2
        go_ret
        exact ⟨rfl, grow_alloc (Below.refl _ _) _⟩
      · have d1 : decide ((1 : Int) ≤ (s : Int)) = false := by simp; omega
        go_enter Try.func88, Try.ntmps88
        go_wp2
        go_ret
        exact ⟨rfl, grow_alloc (Below.refl _ _) _⟩

set_option maxRecDepth 100000 in
set_option maxHeartbeats 4000000 in
theorem checkTxn_small (X : Int) (w W0 : World) (hz : IsTx w ra ga sa rs gs ss) (hm : manyE rs.length gs.length ss.length = 0) (HX : Hid (X = firstNZ [rangeE rs, rangeE (keysOf ss), riseE rs, riseE (keysOf ss), firstNZ (gs.map (gErr rs.length)), firstNZ (ss.map (sErr rs.length))])) (eW : W0 = w.alloc (.cells #[.slice ra rs.length rc, .slice ga gs.length gc, .slice sa ss.length sc] 38)) :
    Calls Try.prog 88 #[.agg #[.slice ra rs.length rc, .slice ga gs.length gc, .slice sa ss.length sc]] w fun e' w' => e' = .returned (.int .i64 X) ∧ Below w.heap.size w w' := by
  obtain ⟨hr4, hg2, hs3, hs1⟩ := many_small _ _ _ hm
  have EW : Hid (W0 = w.alloc (.cells #[.slice ra rs.length rc, .slice ga gs.length gc, .slice sa ss.length sc] 38)) := eW
  have c0 : W0.cell? ⟨w.heap.size, 0, none⟩ = some (.slice ra rs.length rc) := by rw [eW]; simp
  have c1 : W0.cell? ⟨w.heap.size, 1, none⟩ = some (.slice ga gs.length gc) := by rw [eW]; simp
  have c2 : W0.cell? ⟨w.heap.size, 2, none⟩ = some (.slice sa ss.length sc) := by rw [eW]; simp
  have hold : ∀ (p : Addr), p.block < w.heap.size → W0.cell? p = w.cell? p := fun p h => by rw [eW]; exact World.cell?_alloc_lt _ _ _ h
  have hup : ∀ {wr : World}, Below (w.heap.size + 1) W0 wr → Below w.heap.size w wr := fun h => by
    rw [eW] at h; exact (grow_alloc (Below.refl _ _) _).trans (h.mono (by omega))
  have hW0 : Below (w.heap.size + 1) W0 W0 := Below.refl _ _
  have b1 : ¬ (4 : Int) < (rs.length : Int) := by omega
  have b2 : ¬ (2 : Int) < (gs.length : Int) := by omega
  have d1 : decide ((1 : Int) ≤ (ss.length : Int)) = true := by simp; omega
  have d2 : decide ((ss.length : Int) ≤ (3 : Int)) = true := by simp; omega
  clear hm eW
  go_enter Try.func88, Try.ntmps88
  go_wp2
  rw [← EW.out]
  clear b1 b2 d1 d2
  go_loopw [3] (fun i wr => ∃ k : Nat, k ≤ rs.length ∧ i = .int .i64 k ∧ Hid (X = firstNZ (rangeE (rs.drop k) :: [rangeE (keysOf ss), riseE rs, riseE (keysOf ss), firstNZ (gs.map (gErr rs.length)), firstNZ (ss.map (sErr rs.length))])) ∧ Below (w.heap.size + 1) W0 wr) (fun i _ => rs.length - (intOf i).toNat)
  case atStart => exact ⟨0, Nat.zero_le _, rfl, HX, hW0⟩
  case round =>
    clear HX hW0
    obtain ⟨k, hk, rfl, hno, hnx⟩ := hrel
    have qr := hnx.cell (p := ⟨w.heap.size, 0, none⟩) (Nat.lt_succ_self _)
    have qg := hnx.cell (p := ⟨w.heap.size, 1, none⟩) (Nat.lt_succ_self _)
    have qs := hnx.cell (p := ⟨w.heap.size, 2, none⟩) (Nat.lt_succ_self _)
    rw [c0] at qr
    rw [c1] at qg
    rw [c2] at qs
    by_cases hlt : k < rs.length
    · obtain ⟨b, off, rfl, hb, hc⟩ := hz.r k hlt
      have hc := (hnx.cell (p := ⟨b, off + k, none⟩) (Nat.lt_succ_of_lt hb)).trans ((hold _ hb).trans hc)
      have hs : Hid (rangeE (rs.drop k) = if rs.getD k 0 < 0 ∨ 8 ≤ rs.getD k 0 then 3 else rangeE (rs.drop (k + 1))) := rangeE_step rs k hlt
      generalize rs.getD k 0 = z at *
      by_cases hbad : z < 0 ∨ 8 ≤ z
      · have HV : Hid (X = 3) := by rw [hno.out, hs.out, if_pos hbad]; rfl
        have RB : Hid (Below w.heap.size w wr) := hup hnx
        have hd : (!(decide (0 ≤ z) && decide (z ≤ 7))) = true := by simp; omega
        clear hno hs hnx hz hbad
        go_wp2_with (go_at_call 112; refine (isKey_any z _).mono ?_; rintro e w' ⟨rfl, rfl⟩)
        go_ret
        exact ⟨by rw [HV.out]; rfl, RB.out⟩
      · have HV : Hid (X = firstNZ (rangeE (rs.drop (k + 1)) :: [rangeE (keysOf ss), riseE rs, riseE (keysOf ss), firstNZ (gs.map (gErr rs.length)), firstNZ (ss.map (sErr rs.length))])) := hno.out.trans (by rw [hs.out, if_neg hbad])
        have RB : Hid (Below (w.heap.size + 1) W0 wr) := hnx
        have hd : (!(decide (0 ≤ z) && decide (z ≤ 7))) = false := by simp; omega
        clear hno hs hnx hz hbad
        go_wp2_with (go_at_call 112; refine (isKey_any z _).mono ?_; rintro e w' ⟨rfl, rfl⟩)
        go_roundw
        case rel => first | exact ⟨k + 1, by omega, by go_num, HV, RB⟩ | ((repeat apply Exists.intro); exact ⟨⟨k + 1, by omega, by go_num, HV, RB⟩, rfl⟩)
        case measure => simp [intOf]; omega
    · have HX : Hid (X = firstNZ [rangeE (keysOf ss), riseE rs, riseE (keysOf ss), firstNZ (gs.map (gErr rs.length)), firstNZ (ss.map (sErr rs.length))]) := by
        refine hno.out.trans ?_
        rw [List.drop_of_length_le (by omega)]; exact nz_zero _ _ rfl
      have hW0 : Below (w.heap.size + 1) W0 wr := hnx
      clear hno hnx
      go_wp2_with fail
      go_loopw [4] (fun i wr => ∃ k : Nat, k ≤ ss.length ∧ i = .int .i64 k ∧ Hid (X = firstNZ (rangeE ((keysOf ss).drop k) :: [riseE rs, riseE (keysOf ss), firstNZ (gs.map (gErr rs.length)), firstNZ (ss.map (sErr rs.length))])) ∧ Below (w.heap.size + 1) W0 wr) (fun i _ => ss.length - (intOf i).toNat)
      case atStart => exact ⟨0, Nat.zero_le _, rfl, HX, hW0⟩
      case round =>
        clear HX hW0
        obtain ⟨k, hk, rfl, hno, hnx⟩ := hrel
        have qr := hnx.cell (p := ⟨w.heap.size, 0, none⟩) (Nat.lt_succ_self _)
        have qg := hnx.cell (p := ⟨w.heap.size, 1, none⟩) (Nat.lt_succ_self _)
        have qs := hnx.cell (p := ⟨w.heap.size, 2, none⟩) (Nat.lt_succ_self _)
        rw [c0] at qr
        rw [c1] at qg
        rw [c2] at qs
        by_cases hlt : k < ss.length
        · obtain ⟨b, off, rfl, hb, hc, _, _, _, _, _⟩ := hz.s k hlt
          have hc := (hnx.cell (p := ⟨b, off + k * 6, none⟩) (Nat.lt_succ_of_lt hb)).trans ((hold _ hb).trans hc)
          have hs : Hid (rangeE ((keysOf ss).drop k) = if (ss.getD k s0).key < 0 ∨ 8 ≤ (ss.getD k s0).key then 3 else rangeE ((keysOf ss).drop (k + 1))) := by have := rangeE_step (keysOf ss) k (by rw [keys_len]; exact hlt); rw [keys_get ss k hlt] at this; exact this
          generalize (ss.getD k s0).key = z at *
          by_cases hbad : z < 0 ∨ 8 ≤ z
          · have HV : Hid (X = 3) := by rw [hno.out, hs.out, if_pos hbad]; rfl
            have RB : Hid (Below w.heap.size w wr) := hup hnx
            have hd : (!(decide (0 ≤ z) && decide (z ≤ 7))) = true := by simp; omega
            clear hno hs hnx hz hbad
            go_wp2_with (go_at_call 112; refine (isKey_any z _).mono ?_; rintro e w' ⟨rfl, rfl⟩)
            go_ret
            exact ⟨by rw [HV.out]; rfl, RB.out⟩
          · have HV : Hid (X = firstNZ (rangeE ((keysOf ss).drop (k + 1)) :: [riseE rs, riseE (keysOf ss), firstNZ (gs.map (gErr rs.length)), firstNZ (ss.map (sErr rs.length))])) := hno.out.trans (by rw [hs.out, if_neg hbad])
            have RB : Hid (Below (w.heap.size + 1) W0 wr) := hnx
            have hd : (!(decide (0 ≤ z) && decide (z ≤ 7))) = false := by simp; omega
            clear hno hs hnx hz hbad
            go_wp2_with (go_at_call 112; refine (isKey_any z _).mono ?_; rintro e w' ⟨rfl, rfl⟩)
            go_roundw
            case rel => first | exact ⟨k + 1, by omega, by go_num, HV, RB⟩ | ((repeat apply Exists.intro); exact ⟨⟨k + 1, by omega, by go_num, HV, RB⟩, rfl⟩)
            case measure => simp [intOf]; omega
        · have HX : Hid (X = firstNZ [riseE rs, riseE (keysOf ss), firstNZ (gs.map (gErr rs.length)), firstNZ (ss.map (sErr rs.length))]) := by
            refine hno.out.trans ?_
            rw [List.drop_of_length_le (by rw [keys_len]; omega)]; exact nz_zero _ _ rfl
          have hW0 : Below (w.heap.size + 1) W0 wr := hnx
          clear hno hnx
          go_wp2_with fail
          go_loopw [5] (fun i wr => ∃ k : Nat, k ≤ rs.length ∧ i = .int .i64 (k + 1 : Nat) ∧ Hid (X = firstNZ (riseE (rs.drop k) :: [riseE (keysOf ss), firstNZ (gs.map (gErr rs.length)), firstNZ (ss.map (sErr rs.length))])) ∧ Below (w.heap.size + 1) W0 wr) (fun i _ => rs.length + 1 - (intOf i).toNat)
          case atStart => exact ⟨0, Nat.zero_le _, rfl, HX, hW0⟩
          case round =>
            clear HX hW0
            obtain ⟨k, hk, rfl, hno, hnx⟩ := hrel
            have qr := hnx.cell (p := ⟨w.heap.size, 0, none⟩) (Nat.lt_succ_self _)
            have qg := hnx.cell (p := ⟨w.heap.size, 1, none⟩) (Nat.lt_succ_self _)
            have qs := hnx.cell (p := ⟨w.heap.size, 2, none⟩) (Nat.lt_succ_self _)
            rw [c0] at qr
            rw [c1] at qg
            rw [c2] at qs
            by_cases hlt : k + 1 < rs.length
            · obtain ⟨b, off, rfl, hb, hc⟩ := hz.r (k + 1) hlt
              obtain ⟨b', off', hbo, hb', hc'⟩ := hz.r k (by omega)
              simp only [Option.some.injEq, Addr.mk.injEq, and_true] at hbo
              obtain ⟨rfl, rfl⟩ := hbo
              have hc := (hnx.cell (p := ⟨b, off + (k + 1), none⟩) (Nat.lt_succ_of_lt hb)).trans ((hold _ hb).trans hc)
              have hc' := (hnx.cell (p := ⟨b, off + k, none⟩) (Nat.lt_succ_of_lt hb)).trans ((hold _ hb).trans hc')
              have hs : Hid (riseE (rs.drop k) = if rs.getD (k + 1) 0 ≤ rs.getD k 0 then 1 else riseE (rs.drop (k + 1))) := riseE_step rs k hlt
              generalize rs.getD (k + 1) 0 = y at *
              generalize rs.getD k 0 = x at *
              have i1 : (0 : Int) ≤ (k : Int) + 1 := by omega
              have i2 : ((k : Int) + 1) < (rs.length : Int) := by omega
              by_cases hyx : y ≤ x
              · have HV : Hid (X = 1) := by rw [hno.out, hs.out, if_pos hyx]; rfl
                have RB : Hid (Below w.heap.size w wr) := hup hnx
                clear hno hs hnx hz
                go_wp2_with fail
                go_quiet (fail)
                go_wp2
                go_ret
                exact ⟨by rw [HV.out]; rfl, below_drewN RB.out _⟩
              · have HV : Hid (X = firstNZ (riseE (rs.drop (k + 1)) :: [riseE (keysOf ss), firstNZ (gs.map (gErr rs.length)), firstNZ (ss.map (sErr rs.length))])) := hno.out.trans (by rw [hs.out, if_neg hyx])
                have RB : Hid (Below (w.heap.size + 1) W0 wr) := hnx
                clear hno hs hnx hz
                go_wp2_with fail
                go_quiet (fail)
                go_wp2
                go_roundw
                case rel => first | exact ⟨k + 1, by omega, by go_num, HV, below_drewN RB.out _⟩ | ((repeat apply Exists.intro); exact ⟨⟨k + 1, by omega, by go_num, HV, below_drewN RB.out _⟩, rfl⟩)
                case measure => simp [intOf]; omega
            · have HX : Hid (X = firstNZ [riseE (keysOf ss), firstNZ (gs.map (gErr rs.length)), firstNZ (ss.map (sErr rs.length))]) := by
                refine hno.out.trans ?_
                rw [riseE_end rs k (by omega)]; exact nz_zero _ _ rfl
              have hW0 : Below (w.heap.size + 1) W0 wr := hnx
              clear hno hnx
              go_wp2_with fail
              go_loopw [6] (fun i wr => ∃ k : Nat, k ≤ ss.length ∧ i = .int .i64 (k + 1 : Nat) ∧ Hid (X = firstNZ (riseE ((keysOf ss).drop k) :: [firstNZ (gs.map (gErr rs.length)), firstNZ (ss.map (sErr rs.length))])) ∧ Below (w.heap.size + 1) W0 wr) (fun i _ => ss.length + 1 - (intOf i).toNat)
              case atStart => exact ⟨0, Nat.zero_le _, rfl, HX, hW0⟩
              case round =>
                clear HX hW0
                obtain ⟨k, hk, rfl, hno, hnx⟩ := hrel
                have qr := hnx.cell (p := ⟨w.heap.size, 0, none⟩) (Nat.lt_succ_self _)
                have qg := hnx.cell (p := ⟨w.heap.size, 1, none⟩) (Nat.lt_succ_self _)
                have qs := hnx.cell (p := ⟨w.heap.size, 2, none⟩) (Nat.lt_succ_self _)
                rw [c0] at qr
                rw [c1] at qg
                rw [c2] at qs
                by_cases hlt : k + 1 < ss.length
                · obtain ⟨b, off, rfl, hb, hc, _, _, _, _, _⟩ := hz.s (k + 1) hlt
                  obtain ⟨b', off', hbo, hb', hc', _, _, _, _, _⟩ := hz.s k (by omega)
                  simp only [Option.some.injEq, Addr.mk.injEq, and_true] at hbo
                  obtain ⟨rfl, rfl⟩ := hbo
                  have hc := (hnx.cell (p := ⟨b, off + (k + 1) * 6, none⟩) (Nat.lt_succ_of_lt hb)).trans ((hold _ hb).trans hc)
                  have hc' := (hnx.cell (p := ⟨b, off + k * 6, none⟩) (Nat.lt_succ_of_lt hb)).trans ((hold _ hb).trans hc')
                  have hs : Hid (riseE ((keysOf ss).drop k) = if (ss.getD (k + 1) s0).key ≤ (ss.getD k s0).key then 1 else riseE ((keysOf ss).drop (k + 1))) := by have := riseE_step (keysOf ss) k (by rw [keys_len]; exact hlt); rw [keys_get ss k (by omega), keys_get ss (k + 1) hlt] at this; exact this
                  generalize (ss.getD (k + 1) s0).key = y at *
                  generalize (ss.getD k s0).key = x at *
                  have i1 : (0 : Int) ≤ (k : Int) + 1 := by omega
                  have i2 : ((k : Int) + 1) < (ss.length : Int) := by omega
                  by_cases hyx : y ≤ x
                  · have HV : Hid (X = 1) := by rw [hno.out, hs.out, if_pos hyx]; rfl
                    have RB : Hid (Below w.heap.size w wr) := hup hnx
                    clear hno hs hnx hz
                    go_wp2_with fail
                    go_quiet (fail)
                    go_wp2
                    go_ret
                    exact ⟨by rw [HV.out]; rfl, below_drewN RB.out _⟩
                  · have HV : Hid (X = firstNZ (riseE ((keysOf ss).drop (k + 1)) :: [firstNZ (gs.map (gErr rs.length)), firstNZ (ss.map (sErr rs.length))])) := hno.out.trans (by rw [hs.out, if_neg hyx])
                    have RB : Hid (Below (w.heap.size + 1) W0 wr) := hnx
                    clear hno hs hnx hz
                    go_wp2_with fail
                    go_quiet (fail)
                    go_wp2
                    go_roundw
                    case rel => first | exact ⟨k + 1, by omega, by go_num, HV, below_drewN RB.out _⟩ | ((repeat apply Exists.intro); exact ⟨⟨k + 1, by omega, by go_num, HV, below_drewN RB.out _⟩, rfl⟩)
                    case measure => simp [intOf]; omega
                · have HX : Hid (X = firstNZ [firstNZ (gs.map (gErr rs.length)), firstNZ (ss.map (sErr rs.length))]) := by
                    refine hno.out.trans ?_
                    rw [riseE_end (keysOf ss) k (by rw [keys_len]; omega)]; exact nz_zero _ _ rfl
                  have hW0 : Below (w.heap.size + 1) W0 wr := hnx
                  clear hno hnx
                  go_wp2_with fail
                  go_loopw [7, 8, 9, 10, 11, 12] (fun i _ _ _ _ _ wr => ∃ k : Nat, k ≤ gs.length ∧ i = .int .i64 k ∧ Hid (X = firstNZ (firstNZ ((gs.map (gErr rs.length)).drop k) :: [firstNZ (ss.map (sErr rs.length))])) ∧ Below (w.heap.size + 1) W0 wr) (fun i _ _ _ _ _ _ => gs.length - (intOf i).toNat)
                  case atStart => exact ⟨0, Nat.zero_le _, rfl, HX, hW0⟩
                  case round =>
                    clear HX hW0
                    obtain ⟨k, hk, rfl, hno, hnx⟩ := hrel
                    have qr := hnx.cell (p := ⟨w.heap.size, 0, none⟩) (Nat.lt_succ_self _)
                    have qg := hnx.cell (p := ⟨w.heap.size, 1, none⟩) (Nat.lt_succ_self _)
                    have qs := hnx.cell (p := ⟨w.heap.size, 2, none⟩) (Nat.lt_succ_self _)
                    rw [c0] at qr
                    rw [c1] at qg
                    rw [c2] at qs
                    by_cases hlt : k < gs.length
                    · obtain ⟨b, off, rfl, hb, e0, e1, e2, e3, e4⟩ := hz.g k hlt
                      have up : ∀ j u, w.cell? ⟨b, j, none⟩ = some u → wr.cell? ⟨b, j, none⟩ = some u := fun j u h =>
                        (hnx.cell (p := ⟨b, j, none⟩) (Nat.lt_succ_of_lt hb)).trans ((hold ⟨b, j, none⟩ hb).trans h)
                      have f0 := up _ _ e0
                      have f1 := up _ _ e1
                      have f2 := up _ _ e2
                      have f3 := up _ _ e3
                      have f4 := up _ _ e4
                      have hs : Hid (firstNZ ((gs.map (gErr rs.length)).drop k) = if gErr rs.length (gs.getD k g0) = 0 then firstNZ ((gs.map (gErr rs.length)).drop (k + 1)) else gErr rs.length (gs.getD k g0)) := firstNZ_step (gErr rs.length) gs g0 k hlt
                      have hsz : w.heap.size + 1 ≤ wr.heap.size := by have := hnx.size; have := EW.out; subst this; simp at *; omega
                      have qrs := fun o => (World.cell?_alloc_lt wr o ⟨w.heap.size, 0, none⟩ hsz).trans qr
                      have qrt := fun o o' => (World.cell?_alloc_lt (wr.alloc o) o' ⟨w.heap.size, 0, none⟩ (by simp; omega)).trans (qrs o)
                      have hwr : Hid ((Lit.int .i64 (rs.length : Int)).wf = true) := WalkArith.wf_i64 (by omega)
                      clear e0 e1 e2 e3 e4 up
                      generalize (gs.getD k g0) = s at *
                      obtain ⟨kd, ak, an, bk, bn⟩ := s
                      simp only at f0 f1 f2 f3 f4
                      have RB : Hid (Below (w.heap.size + 1) W0 wr) := hnx
                      have RW : Hid (Below w.heap.size w wr) := hup hnx
                      clear hnx hz
                      by_cases hA : holdE kd = 0
                      · have bA : (holdE kd != 0) = false := by simp [hA]
                        by_cases hB : chkV ak an rs.length = 0
                        · have bB : (chkV ak an rs.length != 0) = false := by simp [hB]
                          by_cases hC : chkV bk bn rs.length = 0
                          · have bC : (chkV bk bn rs.length != 0) = false := by simp [hC]
                            have HV : Hid (X = firstNZ (firstNZ ((gs.map (gErr rs.length)).drop (k + 1)) :: [firstNZ (ss.map (sErr rs.length))])) := step_zero hno hs (nz3_0 hA hB hC)
                            clear hno hs hA hB hC
                            go_wp2_with fail
                            refine (holdsOf_any kd 0 0 _).mono ?_
                            rintro e w' ⟨rfl, rfl⟩
                            go_wp2_with fail
                            refine (checkOperand_any ak an rs.length _ hwr.out).mono ?_
                            rintro e w' ⟨rfl, rfl⟩
                            go_wp2_with fail
                            refine (checkOperand_any bk bn rs.length _ hwr.out).mono ?_
                            rintro e w' ⟨rfl, rfl⟩
                            go_wp2
                            go_roundw
                            case rel => first | exact ⟨k + 1, by omega, by go_num, HV, ((RB.out.alloc (by omega) _).alloc (by simp; omega) _).alloc (by simp; omega) _⟩ | ((repeat apply Exists.intro); exact ⟨⟨k + 1, by omega, by go_num, HV, ((RB.out.alloc (by omega) _).alloc (by simp; omega) _).alloc (by simp; omega) _⟩, rfl⟩)
                            case measure => simp [intOf]; omega
                          · have bC : (chkV bk bn rs.length != 0) = true := by simpa using hC
                            have HV : Hid (X = chkV bk bn rs.length) := step_some hno hs (nz3_3 hA hB hC) hC
                            clear hno hs hA hB hC
                            go_wp2_with fail
                            refine (holdsOf_any kd 0 0 _).mono ?_
                            rintro e w' ⟨rfl, rfl⟩
                            go_wp2_with fail
                            refine (checkOperand_any ak an rs.length _ hwr.out).mono ?_
                            rintro e w' ⟨rfl, rfl⟩
                            go_wp2_with fail
                            refine (checkOperand_any bk bn rs.length _ hwr.out).mono ?_
                            rintro e w' ⟨rfl, rfl⟩
                            go_wp2
                            go_ret
                            exact ⟨by rw [HV.out]; rfl, grow_alloc (grow_alloc (grow_alloc RW.out _) _) _⟩
                        · have bB : (chkV ak an rs.length != 0) = true := by simpa using hB
                          have HV : Hid (X = chkV ak an rs.length) := step_some hno hs (nz3_2 hA hB) hB
                          clear hno hs hA hB
                          go_wp2_with fail
                          refine (holdsOf_any kd 0 0 _).mono ?_
                          rintro e w' ⟨rfl, rfl⟩
                          go_wp2_with fail
                          refine (checkOperand_any ak an rs.length _ hwr.out).mono ?_
                          rintro e w' ⟨rfl, rfl⟩
                          go_wp2
                          go_ret
                          exact ⟨by rw [HV.out]; rfl, grow_alloc (grow_alloc RW.out _) _⟩
                      · have bA : (holdE kd != 0) = true := by simpa using hA
                        have HV : Hid (X = holdE kd) := step_some hno hs (nz3_1 hA) hA
                        clear hno hs hA
                        go_wp2_with fail
                        refine (holdsOf_any kd 0 0 _).mono ?_
                        rintro e w' ⟨rfl, rfl⟩
                        go_wp2
                        go_ret
                        exact ⟨by rw [HV.out]; rfl, grow_alloc RW.out _⟩
                    · have HX : Hid (X = firstNZ [firstNZ (ss.map (sErr rs.length))]) := by
                        refine hno.out.trans ?_
                        rw [List.drop_of_length_le (by simp; omega)]; exact nz_zero _ _ rfl
                      have hW0 : Below (w.heap.size + 1) W0 wr := hnx
                      clear hno hnx
                      go_wp2_with fail
                      go_loopw [13, 14, 15, 16, 17, 18] (fun i _ _ _ _ _ wr => ∃ k : Nat, k ≤ ss.length ∧ i = .int .i64 k ∧ Hid (X = firstNZ (firstNZ ((ss.map (sErr rs.length)).drop k) :: [])) ∧ Below (w.heap.size + 1) W0 wr) (fun i _ _ _ _ _ _ => ss.length - (intOf i).toNat)
                      case atStart => exact ⟨0, Nat.zero_le _, rfl, HX, hW0⟩
                      case round =>
                        clear HX hW0
                        obtain ⟨k, hk, rfl, hno, hnx⟩ := hrel
                        have qr := hnx.cell (p := ⟨w.heap.size, 0, none⟩) (Nat.lt_succ_self _)
                        have qg := hnx.cell (p := ⟨w.heap.size, 1, none⟩) (Nat.lt_succ_self _)
                        have qs := hnx.cell (p := ⟨w.heap.size, 2, none⟩) (Nat.lt_succ_self _)
                        rw [c0] at qr
                        rw [c1] at qg
                        rw [c2] at qs
                        by_cases hlt : k < ss.length
                        · obtain ⟨b, off, rfl, hb, e0, e1, e2, e3, e4, e5⟩ := hz.s k hlt
                          have up : ∀ j u, w.cell? ⟨b, j, none⟩ = some u → wr.cell? ⟨b, j, none⟩ = some u := fun j u h =>
                            (hnx.cell (p := ⟨b, j, none⟩) (Nat.lt_succ_of_lt hb)).trans ((hold ⟨b, j, none⟩ hb).trans h)
                          have f0 := up _ _ e0
                          have f1 := up _ _ e1
                          have f2 := up _ _ e2
                          have f3 := up _ _ e3
                          have f4 := up _ _ e4
                          have f5 := up _ _ e5
                          have hs : Hid (firstNZ ((ss.map (sErr rs.length)).drop k) = if sErr rs.length (ss.getD k s0) = 0 then firstNZ ((ss.map (sErr rs.length)).drop (k + 1)) else sErr rs.length (ss.getD k s0)) := firstNZ_step (sErr rs.length) ss s0 k hlt
                          have hsz : w.heap.size + 1 ≤ wr.heap.size := by have := hnx.size; have := EW.out; subst this; simp at *; omega
                          have qrs := fun o => (World.cell?_alloc_lt wr o ⟨w.heap.size, 0, none⟩ hsz).trans qr
                          have qrt := fun o o' => (World.cell?_alloc_lt (wr.alloc o) o' ⟨w.heap.size, 0, none⟩ (by simp; omega)).trans (qrs o)
                          have hwr : Hid ((Lit.int .i64 (rs.length : Int)).wf = true) := WalkArith.wf_i64 (by omega)
                          clear e0 e1 e2 e3 e4 e5 up
                          generalize (ss.getD k s0) = s at *
                          obtain ⟨key, kd, ak, an, bk, bn⟩ := s
                          simp only at f0 f1 f2 f3 f4 f5
                          have RB : Hid (Below (w.heap.size + 1) W0 wr) := hnx
                          have RW : Hid (Below w.heap.size w wr) := hup hnx
                          clear hnx hz
                          by_cases hA : reckE kd = 0
                          · have bA : (reckE kd != 0) = false := by simp [hA]
                            by_cases hB : chkV ak an rs.length = 0
                            · have bB : (chkV ak an rs.length != 0) = false := by simp [hB]
                              by_cases hC : chkV bk bn rs.length = 0
                              · have bC : (chkV bk bn rs.length != 0) = false := by simp [hC]
                                have HV : Hid (X = firstNZ (firstNZ ((ss.map (sErr rs.length)).drop (k + 1)) :: [])) := step_zero hno hs (nz3_0 hA hB hC)
                                clear hno hs hA hB hC
                                go_wp2_with fail
                                refine (reckonOf_any kd 0 0 _).mono ?_
                                rintro e w' ⟨rfl, rfl⟩
                                go_wp2_with fail
                                refine (checkOperand_any ak an rs.length _ hwr.out).mono ?_
                                rintro e w' ⟨rfl, rfl⟩
                                go_wp2_with fail
                                refine (checkOperand_any bk bn rs.length _ hwr.out).mono ?_
                                rintro e w' ⟨rfl, rfl⟩
                                go_wp2
                                go_roundw
                                case rel => first | exact ⟨k + 1, by omega, by go_num, HV, ((RB.out.alloc (by omega) _).alloc (by simp; omega) _).alloc (by simp; omega) _⟩ | ((repeat apply Exists.intro); exact ⟨⟨k + 1, by omega, by go_num, HV, ((RB.out.alloc (by omega) _).alloc (by simp; omega) _).alloc (by simp; omega) _⟩, rfl⟩)
                                case measure => simp [intOf]; omega
                              · have bC : (chkV bk bn rs.length != 0) = true := by simpa using hC
                                have HV : Hid (X = chkV bk bn rs.length) := step_some hno hs (nz3_3 hA hB hC) hC
                                clear hno hs hA hB hC
                                go_wp2_with fail
                                refine (reckonOf_any kd 0 0 _).mono ?_
                                rintro e w' ⟨rfl, rfl⟩
                                go_wp2_with fail
                                refine (checkOperand_any ak an rs.length _ hwr.out).mono ?_
                                rintro e w' ⟨rfl, rfl⟩
                                go_wp2_with fail
                                refine (checkOperand_any bk bn rs.length _ hwr.out).mono ?_
                                rintro e w' ⟨rfl, rfl⟩
                                go_wp2
                                go_ret
                                exact ⟨by rw [HV.out]; rfl, grow_alloc (grow_alloc (grow_alloc RW.out _) _) _⟩
                            · have bB : (chkV ak an rs.length != 0) = true := by simpa using hB
                              have HV : Hid (X = chkV ak an rs.length) := step_some hno hs (nz3_2 hA hB) hB
                              clear hno hs hA hB
                              go_wp2_with fail
                              refine (reckonOf_any kd 0 0 _).mono ?_
                              rintro e w' ⟨rfl, rfl⟩
                              go_wp2_with fail
                              refine (checkOperand_any ak an rs.length _ hwr.out).mono ?_
                              rintro e w' ⟨rfl, rfl⟩
                              go_wp2
                              go_ret
                              exact ⟨by rw [HV.out]; rfl, grow_alloc (grow_alloc RW.out _) _⟩
                          · have bA : (reckE kd != 0) = true := by simpa using hA
                            have HV : Hid (X = reckE kd) := step_some hno hs (nz3_1 hA) hA
                            clear hno hs hA
                            go_wp2_with fail
                            refine (reckonOf_any kd 0 0 _).mono ?_
                            rintro e w' ⟨rfl, rfl⟩
                            go_wp2
                            go_ret
                            exact ⟨by rw [HV.out]; rfl, grow_alloc RW.out _⟩
                        · have HX : Hid (X = firstNZ []) := by
                            refine hno.out.trans ?_
                            rw [List.drop_of_length_le (by simp; omega)]; exact nz_zero _ _ rfl
                          have hW0 : Below (w.heap.size + 1) W0 wr := hnx
                          clear hno hnx
                          go_wp2
                          go_ret
                          exact ⟨by rw [HX.out]; rfl, hup hW0⟩

set_option maxRecDepth 100000 in
theorem checkTxn_any (w : World) (ht : IsTx w ra ga sa rs gs ss) :
    Calls Try.prog 88 #[.agg #[.slice ra rs.length rc, .slice ga gs.length gc, .slice sa ss.length sc]] w fun e' w' => e' = .returned (.int .i64 (chkTx rs gs ss)) ∧ Below w.heap.size w w' := by
  by_cases hm : manyE rs.length gs.length ss.length = 0
  · exact checkTxn_small ra ga sa rc gc sc rs gs ss _ w _ ht hm (chk_flat rs gs ss hm) rfl
  · exact checkTxn_many ra ga sa rc gc sc rs gs ss w ht hm
end Go.Proofs.Ytcgpkonfneofdaa
