/-
  
  Conditions: those that each theorem states.
-/
import Derived.Test.YtebjkmknhpgemaaGreatUDocD
import Derived.Test.YtebjkmknhpgemaaGreatUDocJ
import Derived.Test.YtebjkmknhpgemaaGreatUPlayD
set_option maxRecDepth 100000
namespace Go.Proofs.YtebjkmknhpgemaaGreat
open Go.RowKit
def fW (sh : Nat) (l : List TxA) (S : SA) (kd : Nat) : List (Nat × Nat × Nat) := if kd = 1 then [] else if kd = 2 then gC sh l S 1 else bD sh l S
theorem canP_step (sh : Nat) (l : List TxA) (S : SA) {kd : Nat} (h : kd = 1 ∨ kd = 2) : fW sh l S (kd + 1) = fW sh l S kd ++ cY sh l S kd l.length := by
 rcases h with rfl | rfl <;> rfl
theorem canP_len (sh : Nat) (l : List TxA) (S : SA) {kd : Nat} (h : kd = 1 ∨ kd = 2) : (fW sh l S kd).length ≤ l.length * sh := by
 rcases h with rfl | rfl
 ·exact Nat.zero_le _
 ·exact fV sh l S 1 l.length
variable (la : Option Addr) (lc : Nat) (l : List TxA) (sa ra wa va : Option Addr) (sc rc tc vc : Nat) (S : SA)
theorem docMay_any (sh kd n k : Nat) (w : World) (hl : IsTxs w la l) (hs : Sta w sa ra wa va S) (hp : ∀ a, a < l.length → pnE sh l a = 0) (hF : Form sh l S) (hkd : kd = 1 ∨ kd = 2) (hn : n < l.length) (h8 : l.length ≤ 8) (hk : k < sh) (h4 : sh ≤ 4) :
  Calls Tryz.prog 65 #[.agg #[.int .i64 (sh : Int), .slice la l.length lc], .agg #[.slice sa S.st.length sc, .slice ra S.rd.length rc, .slice wa S.wr.length tc, .slice va S.vs.length vc], .agg #[.int .i64 (kd : Int), .int .i64 (n : Int), .int .i64 (k : Int)]] w fun e w' => e = .returned (.bool (dP sh l S kd n k)) ∧ Below w.heap.size w w' := by
 rcases hkd with rfl | rfl
 ·exact docMay_read la lc l sa ra wa va sc rc tc vc S sh n k w hl hs hp hF hn h8 hk h4
 ·exact docMay_write la lc l sa ra wa va sc rc tc vc S sh n k w hl hs hp hF hn h8 hk h4
set_option maxHeartbeats 4000000 in
theorem docCan_any (sh : Nat) (w : World) (hl : IsTxs w la l) (hs : Sta w sa ra wa va S) (hp : ∀ a, a < l.length → pnE sh l a = 0) (hF : Form sh l S) (h8 : l.length ≤ 8) (h4 : sh ≤ 4) :
  Calls Tryz.prog 25 #[.agg #[.int .i64 (sh : Int), .slice la l.length lc], .agg #[.slice sa S.st.length sc, .slice ra S.rd.length rc, .slice wa S.wr.length tc, .slice va S.vs.length vc]] w fun e w' => ∃ a c, e = .returned (.slice a (bD sh l S).length c) ∧ eE w' a (bD sh l S) ∧ Below w.heap.size w w' := by
 obtain ⟨i0, hi, hz0, hz1, hz2⟩ := info_parts Tryz.info48
 obtain ⟨W, hWe⟩ : ∃ W : World, W = ((w.alloc (.cells #[.int .i64 (sh : Int), .slice la l.length lc] 24)).alloc (.cells #[.slice sa S.st.length sc, .slice ra S.rd.length rc, .slice wa S.wr.length tc, .slice va S.vs.length vc] 29)) := ⟨_, rfl⟩
 have hW : Hid (Below w.heap.size w W) := by subst hWe; exact (aB (aB (Below.refl _ _) _) _)
 have p0 : W.cell? ⟨w.heap.size, 0, none⟩ = some (.int .i64 (sh : Int)) := by subst hWe; exact aA (aB (Below.refl _ _) _) (aE _ _ 24 _ 0 _ (by first | rfl | simp) rfl)
 have p1 : W.cell? ⟨w.heap.size, 1, none⟩ = some (.slice la l.length lc) := by subst hWe; exact aA (aB (Below.refl _ _) _) (aE _ _ 24 _ 1 _ (by first | rfl | simp) rfl)
 have q0 : W.cell? ⟨w.heap.size + 1, 0, none⟩ = some (.slice sa S.st.length sc) := by subst hWe; exact aA (Below.refl _ _) (aE _ _ 29 _ 0 _ (by first | rfl | simp) rfl)
 have q1 : W.cell? ⟨w.heap.size + 1, 1, none⟩ = some (.slice ra S.rd.length rc) := by subst hWe; exact aA (Below.refl _ _) (aE _ _ 29 _ 1 _ (by first | rfl | simp) rfl)
 have q2 : W.cell? ⟨w.heap.size + 1, 2, none⟩ = some (.slice wa S.wr.length tc) := by subst hWe; exact aA (Below.refl _ _) (aE _ _ 29 _ 2 _ (by first | rfl | simp) rfl)
 have q3 : W.cell? ⟨w.heap.size + 1, 3, none⟩ = some (.slice va S.vs.length vc) := by subst hWe; exact aA (Below.refl _ _) (aE _ _ 29 _ 3 _ (by first | rfl | simp) rfl)
 have KEEP : Hid (∀ w', Below W.heap.size W w' → w'.cell? ⟨w.heap.size, 0, none⟩ = some (.int .i64 (sh : Int)) ∧ w'.cell? ⟨w.heap.size, 1, none⟩ = some (.slice la l.length lc) ∧ w'.cell? ⟨w.heap.size + 1, 0, none⟩ = some (.slice sa S.st.length sc) ∧ w'.cell? ⟨w.heap.size + 1, 1, none⟩ = some (.slice ra S.rd.length rc) ∧ w'.cell? ⟨w.heap.size + 1, 2, none⟩ = some (.slice wa S.wr.length tc) ∧ w'.cell? ⟨w.heap.size + 1, 3, none⟩ = some (.slice va S.vs.length vc)) := fun w' hb => ⟨aA hb p0, aA hb p1, aA hb q0, aA hb q1, aA hb q2, aA hb q3⟩
 have CM : Hid (∀ (kd n k : Nat), kd = 1 ∨ kd = 2 → n < l.length → k < sh → ∀ w', Below W.heap.size W w' → Calls Tryz.prog 65 #[.agg #[.int .i64 (sh : Int), .slice la l.length lc], .agg #[.slice sa S.st.length sc, .slice ra S.rd.length rc, .slice wa S.wr.length tc, .slice va S.vs.length vc], .agg #[.int .i64 (kd : Int), .int .i64 (n : Int), .int .i64 (k : Int)]] w' fun e w'' => e = .returned (.bool (dP sh l S kd n k)) ∧ Below w'.heap.size w' w'') := fun kd n k hkd hn hk w' hb => docMay_any la lc l sa ra wa va sc rc tc vc S sh kd n k w' ((hl.below hW.out).below hb) ((hs.below hW.out).below hb) hp hF hkd hn h8 hk h4
 clear hl hs hp hF p0 p1 q0 q1 q2 q3
 have HWe : Hid (W = _) := hWe
 clear hWe
 go_enter Tryz.func25, Tryz.ntmps25
 go_upto_region 1 with fail
 rw [← HWe.out]
 clear HWe
 go_wp2
 go_loopw [5, 6] (fun v i wr => ∃ kd : Nat, 1 ≤ kd ∧ kd ≤ 3 ∧ i = .int .i64 kd ∧ Hid (wr.ownsRow W.heap.size 48 3 v (fW sh l S kd).length (aR (fW sh l S kd))) ∧ Hid (Below W.heap.size W wr)) (fun _ i _ => 3 - (intOf i).toNat)
 case atStart => exact ⟨1, Nat.le_refl _, by omega, rfl, World.ownsRow_nil _ _ _ _, Below.refl _ _⟩
 case round =>
  obtain ⟨kd, hk1, hk3, rfl, hown, hB⟩ := hrel
  by_cases hlt : kd ≤ 2
  ·have hkd : kd = 1 ∨ kd = 2 := by omega
   have hPL := canP_len sh l S hkd
   have HPS : Hid (fW sh l S (kd + 1) = fW sh l S kd ++ cY sh l S kd l.length) := canP_step sh l S hkd
   have i1 : (kd : Int) ≤ 2 := by omega
   have ho0 : Hid (wr.ownsRow W.heap.size 48 3 u5 (fW sh l S kd ++ cY sh l S kd 0).length (aR (fW sh l S kd ++ cY sh l S kd 0))) := by
    have e : cY sh l S kd 0 = [] := rfl
    rw [e, List.append_nil]; exact hown.out
   clear hown
   go_wp2
   go_loopw [5, 7] (fun v i wq => ∃ n : Nat, n ≤ l.length ∧ i = .int .i64 n ∧ Hid (wq.ownsRow W.heap.size 48 3 v (fW sh l S kd ++ cY sh l S kd n).length (aR (fW sh l S kd ++ cY sh l S kd n))) ∧ Hid (Below W.heap.size W wq)) (fun _ i _ => l.length - (intOf i).toNat)
   case atStart => exact ⟨0, Nat.zero_le _, rfl, ho0, hB⟩
   case round =>
    clear ho0 hB
    obtain ⟨n, hn, rfl, hown, hB⟩ := hrel
    obtain ⟨p0, p1, q0, q1, q2, q3⟩ := KEEP.out wr hB.out
    by_cases hltn : n < l.length
    ·have i2 : (n : Int) < (l.length : Int) := by omega
     have ho0 : Hid (wr.ownsRow W.heap.size 48 3 u5 (fW sh l S kd ++ cY sh l S kd n ++ cT sh l S kd n 0).length (aR (fW sh l S kd ++ cY sh l S kd n ++ cT sh l S kd n 0))) := by
      have e : cT sh l S kd n 0 = [] := rfl
      rw [e, List.append_nil]; exact hown.out
     clear hown
     go_wp2
     clear p0 p1 q0 q1 q2 q3
     go_loopw [5, 8] (fun v i wq => ∃ k : Nat, k ≤ sh ∧ i = .int .i64 k ∧ Hid (wq.ownsRow W.heap.size 48 3 v (fW sh l S kd ++ cY sh l S kd n ++ cT sh l S kd n k).length (aR (fW sh l S kd ++ cY sh l S kd n ++ cT sh l S kd n k))) ∧ Hid (Below W.heap.size W wq)) (fun _ i _ => sh - (intOf i).toNat)
     case atStart => exact ⟨0, Nat.zero_le _, rfl, ho0, hB⟩
     case round =>
      clear ho0 hB
      obtain ⟨k, hk, rfl, hown, hB⟩ := hrel
      obtain ⟨p0, p1, q0, q1, q2, q3⟩ := KEEP.out wr hB.out
      by_cases hltk : k < sh
      ·have HS : Hid (cT sh l S kd n (k + 1) = cT sh l S kd n k ++ (if dP sh l S kd n k then [(kd, n, k)] else [])) := qL sh l S kd n k
       have CM1 : Hid (∀ w', Below W.heap.size W w' → Calls Tryz.prog 65 #[.agg #[.int .i64 (sh : Int), .slice la l.length lc], .agg #[.slice sa S.st.length sc, .slice ra S.rd.length rc, .slice wa S.wr.length tc, .slice va S.vs.length vc], .agg #[.int .i64 (kd : Int), .int .i64 (n : Int), .int .i64 (k : Int)]] w' fun e w'' => e = .returned (.bool (dP sh l S kd n k)) ∧ Below w'.heap.size w' w'') := CM.out kd n k hkd hltn hltk
       have hlen : (fW sh l S kd ++ cY sh l S kd n ++ cT sh l S kd n k).length ≤ 100 := by
        have h1 := fV sh l S kd n
        have h2 := oX sh l S kd n k
        have h3 : n * sh ≤ 8 * 4 := Nat.mul_le_mul (by omega) (by omega)
        have h5 : l.length * sh ≤ 8 * 4 := Nat.mul_le_mul (by omega) (by omega)
        rw [List.length_append, List.length_append]
        omega
       generalize dP sh l S kd n k = M at *
       have i3 : (k : Int) < (sh : Int) := by omega
       have hU : Hid (Below W.heap.size W (wr.alloc (.cells #[.int .i64 kd, .int .i64 n, .int .i64 k] 48))) := aB hB.out _
       have c0 : (wr.alloc (.cells #[.int .i64 kd, .int .i64 n, .int .i64 k] 48)).cell? ⟨wr.heap.size, 0, none⟩ = some (.int .i64 kd) := by simp
       have c1 : (wr.alloc (.cells #[.int .i64 kd, .int .i64 n, .int .i64 k] 48)).cell? ⟨wr.heap.size, 1, none⟩ = some (.int .i64 n) := by simp
       have c2 : (wr.alloc (.cells #[.int .i64 kd, .int .i64 n, .int .i64 k] 48)).cell? ⟨wr.heap.size, 2, none⟩ = some (.int .i64 k) := by simp
       have ho1 : Hid ((wr.alloc (.cells #[.int .i64 kd, .int .i64 n, .int .i64 k] 48)).ownsRow W.heap.size 48 3 u5 (fW sh l S kd ++ cY sh l S kd n ++ cT sh l S kd n k).length (aR (fW sh l S kd ++ cY sh l S kd n ++ cT sh l S kd n k))) := hown.out.alloc _
       clear hown hB
       go_upto_region 12 with fail
       clear p0 p1 q0 q1 q2 q3
       generalize (wr.alloc (.cells #[.int .i64 kd, .int .i64 n, .int .i64 k] 48)) = V at *
       obtain ⟨p0, p1, q0, q1, q2, q3⟩ := KEEP.out V hU.out
       go_wp2_with fail
       refine (CM1.out _ hU.out).mono ?_
       rintro e w1 ⟨rfl, hb1⟩
       have d0 := aA hb1 c0
       have d1 := aA hb1 c1
       have d2 := aA hb1 c2
       have ho2 := bR ho1.out hb1
       have HB1 : Hid (Below W.heap.size W w1) := aC hU.out hb1
       have hsz : W.heap.size ≤ w1.heap.size := HB1.out.size
       clear hb1 CM1 hU c0 c1 c2 ho1 p0 p1 q0 q1 q2 q3
       cases hM : M with
       | true =>
        rw [hM] at HS
        go_wp2_with (first | (at_builtin; (refine wpList_append_own _ rfl _ _ 43 rfl W.heap.size 48 i0 (.agg #[.int .i64 0, .int .i64 0, .int .i64 0]) 3 24 Tryz.underlying43 hi hz0 hz1 hz2 rfl (by decide) _ _ _ rfl (ho2.alloc _) _ 1 1 [.int .i64 kd, .int .i64 n, .int .i64 k] rfl rfl (news_st _ _ _ _ _ (by simp)) (one_st _ _ _) (by unfold maxLen; omega) (by omega) (by simp; omega) ?_); intro v' w3 hown' hgrow _) | go_in)
        have R : Hid (w3.ownsRow W.heap.size 48 3 v' (fW sh l S kd ++ cY sh l S kd n ++ cT sh l S kd n (k + 1)).length (aR (fW sh l S kd ++ cY sh l S kd n ++ cT sh l S kd n (k + 1)))) := by
         have e : cT sh l S kd n (k + 1) = cT sh l S kd n k ++ [(kd, n, k)] := by rw [HS.out]; simp
         rw [e, ← List.append_assoc]; exact own_st hown'
        have RB : Hid (Below W.heap.size W w3) := (HB1.out.alloc hsz _).grown hgrow (by simp; omega) (fun j hj => (ho2.lt j hj).1)
        clear hown' hgrow ho2 HS d0 d1 d2 HB1
        go_wp2
        go_roundw
        case rel => exact ⟨k + 1, by omega, by go_num, R, RB⟩
        case measure => simp [intOf]; omega
       | false =>
        rw [hM] at HS
        have R : Hid (w1.ownsRow W.heap.size 48 3 u5 (fW sh l S kd ++ cY sh l S kd n ++ cT sh l S kd n (k + 1)).length (aR (fW sh l S kd ++ cY sh l S kd n ++ cT sh l S kd n (k + 1)))) := by
         have e : cT sh l S kd n (k + 1) = cT sh l S kd n k := by rw [HS.out]; simp
         rw [e]; exact ho2
        clear ho2 HS d0 d1 d2
        go_wp2
        go_roundw
        case rel => exact ⟨k + 1, by omega, by go_num, R, HB1⟩
        case measure => simp [intOf]; omega
      ·have hkk : k = sh := by omega
       have R : Hid (wr.ownsRow W.heap.size 48 3 u5 (fW sh l S kd ++ cY sh l S kd (n + 1)).length (aR (fW sh l S kd ++ cY sh l S kd (n + 1)))) := by
        have h := hown.out
        rw [hkk] at h
        rw [mM, ← List.append_assoc]
        exact h
       have i3 : ¬ (k : Int) < (sh : Int) := by omega
       clear hown
       go_wp2
       go_roundw
       case rel => exact ⟨n + 1, by omega, by go_num, R, hB⟩
       case measure => simp [intOf]; omega
    ·have hnn : n = l.length := by omega
     have R : Hid (wr.ownsRow W.heap.size 48 3 u5 (fW sh l S (kd + 1)).length (aR (fW sh l S (kd + 1)))) := by
      have h := hown.out
      rw [hnn] at h
      show World.ownsRow _ _ _ _ _ _ _
      rw [HPS.out]
      exact h
     have i2 : ¬ (n : Int) < (l.length : Int) := by omega
     clear hown
     go_wp2
     go_roundw
     case rel => exact ⟨kd + 1, by omega, by omega, by go_num, R, hB⟩
     case measure => simp [intOf]; omega
  ·have hkk : kd = 3 := by omega
   subst hkk
   have R : Hid (wr.ownsRow W.heap.size 48 3 u5 (bD sh l S).length (aR (bD sh l S))) := hown.out
   have BF : Hid (Below w.heap.size w wr) := aC hW.out hB.out
   clear hown hB
   go_wp2
   go_ret
   obtain ⟨a, c, e1, e2⟩ := iC R.out rfl
   exact ⟨a, c, by rw [e1]; rfl, e2, BF.out⟩
end Go.Proofs.YtebjkmknhpgemaaGreat
namespace Go.Proofs.YtebjkmknhpgemaaGreat
open Go.RowKit
structure RW (sh : Nat) (l : List TxA) (X : Nat → SA) (K : Nat) : Prop where
 fm : ∀ i, i ≤ K → Form sh l (X i)
 ov : ∀ i, i ≤ K → cD sh l (X i) = decide (i = K)
 can : ∀ i, i < K → 0 < (bD sh l (X i)).length
 kd : ∀ i, i < K → ((bD sh l (X i)).getD 0 (0, 0, 0)).1 = 1 ∨ ((bD sh l (X i)).getD 0 (0, 0, 0)).1 = 2
 tx : ∀ i, i < K → ((bD sh l (X i)).getD 0 (0, 0, 0)).2.1 < l.length
 sd : ∀ i, i < K → ((bD sh l (X i)).getD 0 (0, 0, 0)).2.2 < sh
 nx : ∀ i, i < K → doX sh l (X i) ((bD sh l (X i)).getD 0 (0, 0, 0)).1 ((bD sh l (X i)).getD 0 (0, 0, 0)).2.1 ((bD sh l (X i)).getD 0 (0, 0, 0)).2.2 = X (i + 1)
 few : K ≤ 64
theorem eJ {lo lo' a O R0 : Nat} {S : SA} {q5 : Q4} {u V w4 : World} {u0 u1 u2 u3 : Value} (hb : Below u.heap.size u V) (B4 : Below V.heap.size V w4) (hO : u.heap.size ≤ O) (o0 : V.cell? ⟨O, 0, none⟩ = some u0) (o1 : V.cell? ⟨O, 1, none⟩ = some u1) (o2 : V.cell? ⟨O, 2, none⟩ = some u2) (o3 : V.cell? ⟨O, 3, none⟩ = some u3) (of_ : ∀ j, V.frozen? ⟨O, j, none⟩ = false) (h5 : StaF lo' S q5 w4) (hl : lo ≤ lo') (ha : a ≤ O) (hR : O ≤ R0) (hOl2 : R0 < lo') :
  Hid (((((w4.setCell ⟨O, 0, none⟩ (.slice q5.sa q5.sn q5.sc)).setCell ⟨O, 1, none⟩ (.slice q5.ra q5.rn q5.rc)).setCell ⟨O, 2, none⟩ (.slice q5.wa q5.wn q5.tc)).setCell ⟨O, 3, none⟩ (.slice q5.va q5.vn q5.vc)).cell? ⟨O, 0, none⟩ = some (.slice q5.sa q5.sn q5.sc) ∧ ((((w4.setCell ⟨O, 0, none⟩ (.slice q5.sa q5.sn q5.sc)).setCell ⟨O, 1, none⟩ (.slice q5.ra q5.rn q5.rc)).setCell ⟨O, 2, none⟩ (.slice q5.wa q5.wn q5.tc)).setCell ⟨O, 3, none⟩ (.slice q5.va q5.vn q5.vc)).cell? ⟨O, 1, none⟩ = some (.slice q5.ra q5.rn q5.rc) ∧ ((((w4.setCell ⟨O, 0, none⟩ (.slice q5.sa q5.sn q5.sc)).setCell ⟨O, 1, none⟩ (.slice q5.ra q5.rn q5.rc)).setCell ⟨O, 2, none⟩ (.slice q5.wa q5.wn q5.tc)).setCell ⟨O, 3, none⟩ (.slice q5.va q5.vn q5.vc)).cell? ⟨O, 2, none⟩ = some (.slice q5.wa q5.wn q5.tc) ∧ ((((w4.setCell ⟨O, 0, none⟩ (.slice q5.sa q5.sn q5.sc)).setCell ⟨O, 1, none⟩ (.slice q5.ra q5.rn q5.rc)).setCell ⟨O, 2, none⟩ (.slice q5.wa q5.wn q5.tc)).setCell ⟨O, 3, none⟩ (.slice q5.va q5.vn q5.vc)).cell? ⟨O, 3, none⟩ = some (.slice q5.va q5.vn q5.vc)) ∧ Hid (∀ j, ((((w4.setCell ⟨O, 0, none⟩ (.slice q5.sa q5.sn q5.sc)).setCell ⟨O, 1, none⟩ (.slice q5.ra q5.rn q5.rc)).setCell ⟨O, 2, none⟩ (.slice q5.wa q5.wn q5.tc)).setCell ⟨O, 3, none⟩ (.slice q5.va q5.vn q5.vc)).frozen? ⟨O, j, none⟩ = false) ∧ Hid (KO lo a R0 S q5 ((((w4.setCell ⟨O, 0, none⟩ (.slice q5.sa q5.sn q5.sc)).setCell ⟨O, 1, none⟩ (.slice q5.ra q5.rn q5.rc)).setCell ⟨O, 2, none⟩ (.slice q5.wa q5.wn q5.tc)).setCell ⟨O, 3, none⟩ (.slice q5.va q5.vn q5.vc))) ∧ Hid (Below u.heap.size u ((((w4.setCell ⟨O, 0, none⟩ (.slice q5.sa q5.sn q5.sc)).setCell ⟨O, 1, none⟩ (.slice q5.ra q5.rn q5.rc)).setCell ⟨O, 2, none⟩ (.slice q5.wa q5.wn q5.tc)).setCell ⟨O, 3, none⟩ (.slice q5.va q5.vn q5.vc))) := by
 refine ⟨kZ q5 (aA B4 o0) (aA B4 o1) (aA B4 o2) (aA B4 o3), fun j => ?_, ((((h5.ko hl hOl2).set ha hR 0 _).set ha hR 1 _).set ha hR 2 _).set ha hR 3 _, aG (aG (aG (aG (aC hb B4) hO _) hO _) hO _) hO _⟩
 have h := (B4.frozen (p := ⟨O, j, none⟩) (World.block_lt_of_cell? V ⟨O, 0, none⟩ o0)).trans (of_ j)
 simpa using h
section
variable {la : Option Addr} {lc : Nat} {l : List TxA} {q : Q4} {S : SA} {w : World} {sh : Nat}
theorem qH (hl : IsTxs w la l) (hq : StaQ S q w) (hp : aP (sh : Int) l = 0) (hF : Form sh l S) : Calls Tryz.prog 23 #[.agg #[.int .i64 (sh : Int), .slice la l.length lc], .agg #[.slice q.sa q.sn q.sc, .slice q.ra q.rn q.rc, .slice q.wa q.wn q.tc, .slice q.va q.vn q.vc]] w fun e w' => e = .returned (.bool (cD sh l S)) ∧ Below w.heap.size w w' := by
 obtain ⟨e1, e2, e3, e4, hs⟩ := hq
 rw [e1, e2, e3, e4]
 exact docOver_any la lc l q.sa q.ra q.wa q.va q.sc q.rc q.tc q.vc S sh w hl hs hp hF
theorem docCan_q (hl : IsTxs w la l) (hq : StaQ S q w) (hp : aP (sh : Int) l = 0) (hF : Form sh l S) : Calls Tryz.prog 25 #[.agg #[.int .i64 (sh : Int), .slice la l.length lc], .agg #[.slice q.sa q.sn q.sc, .slice q.ra q.rn q.rc, .slice q.wa q.wn q.tc, .slice q.va q.vn q.vc]] w fun e w' => ∃ a c, e = .returned (.slice a (bD sh l S).length c) ∧ eE w' a (bD sh l S) ∧ Below w.heap.size w w' := by
 obtain ⟨e1, e2, e3, e4, hs⟩ := hq
 obtain ⟨h1, h4, hc⟩ := aX hp
 rw [e1, e2, e3, e4]
 exact docCan_any la lc l q.sa q.ra q.wa q.va q.sc q.rc q.tc q.vc S sh w hl hs (fun a ha => pnE_in hp ha) hF (dC hc) (by omega)
theorem qI {kd n k : Nat} (hl : IsTxs w la l) (hq : StaQ S q w) (hp : aP (sh : Int) l = 0) (hF : Form sh l S) (hkd : kd = 1 ∨ kd = 2) (hn : n < l.length) (hk : k < sh) : Calls Tryz.prog 71 #[.agg #[.int .i64 (sh : Int), .slice la l.length lc], .agg #[.slice q.sa q.sn q.sc, .slice q.ra q.rn q.rc, .slice q.wa q.wn q.tc, .slice q.va q.vn q.vc], .agg #[.int .i64 (kd : Int), .int .i64 (n : Int), .int .i64 (k : Int)]] w fun e w' => ∃ q' : Q4, e = .returned (.agg #[.slice q'.sa q'.sn q'.sc, .slice q'.ra q'.rn q'.rc, .slice q'.wa q'.wn q'.tc, .slice q'.va q'.vn q'.vc]) ∧ StaF w.heap.size (doX sh l S kd n k) q' w' ∧ Below w.heap.size w w' := by
 obtain ⟨e1, e2, e3, e4, hs⟩ := hq
 rw [e1, e2, e3, e4]
 rcases hkd with rfl | rfl
 ·exact docDone_read la lc l q.sa q.ra q.wa q.va q.sc q.rc q.tc q.vc S sh n k w hl hs hp hF hn hk
 ·exact pH la lc l q.sa q.ra q.wa q.va q.sc q.rc q.tc q.vc S sh n k w hl hs hp hF hn hk
end
variable (la : Option Addr) (lc : Nat) (l : List TxA)
set_option maxHeartbeats 8000000 in
theorem docRest_any (sh : Nat) (X : Nat → SA) (K : Nat) (q : Q4) (w : World) (hl : IsTxs w la l) (lo : Nat) (hlo : lo ≤ w.heap.size) (hq : StaF lo (X 0) q w) (hp : aP (sh : Int) l = 0) (hR : RW sh l X K) :
  Calls Tryz.prog 77 #[.agg #[.int .i64 (sh : Int), .slice la l.length lc], .agg #[.slice q.sa q.sn q.sc, .slice q.ra q.rn q.rc, .slice q.wa q.wn q.tc, .slice q.va q.vn q.vc]] w fun e w' => ∃ q' : Q4, e = .returned (.tuple #[.agg #[.slice q'.sa q'.sn q'.sc, .slice q'.ra q'.rn q'.rc, .slice q'.wa q'.wn q'.tc, .slice q'.va q'.vn q'.vc], .int .i64 (K : Nat)]) ∧ StaF lo (X K) q' w' ∧ Below w.heap.size w w' := by
 have hK64 := hR.few
 have WF : Hid (∀ i, i ≤ K → Form sh l (X i)) := hR.fm
 have WOV : Hid (∀ i, i ≤ K → cD sh l (X i) = decide (i = K)) := hR.ov
 have WR : Hid (RW sh l X K) := hR
 have HP : Hid (aP (sh : Int) l = 0) := hp
 obtain ⟨U, hUe⟩ : ∃ U : World, U = (w.alloc (.cells #[.int .i64 (sh : Int), .slice la l.length lc] 24)) := ⟨_, rfl⟩
 obtain ⟨W, hWe⟩ : ∃ W : World, W = (((w.alloc (.cells #[.int .i64 (sh : Int), .slice la l.length lc] 24)).alloc (.cells #[.slice q.sa q.sn q.sc, .slice q.ra q.rn q.rc, .slice q.wa q.wn q.tc, .slice q.va q.vn q.vc] 29)).alloc (.cells #[.slice none 0 0, .slice none 0 0, .slice none 0 0, .slice none 0 0] 29)) := ⟨_, rfl⟩
 have szU : Hid (U.heap.size = w.heap.size + 1) := by subst hUe; show _ = _; simp
 have szW : Hid (W.heap.size = w.heap.size + 3) := by subst hWe; show _ = _; simp
 have hU : Hid (Below w.heap.size w U) := by subst hUe; exact (aB (Below.refl _ _) _)
 have hUW : Hid (Below U.heap.size U W) := by subst hUe hWe; exact (aB (aB (Below.refl _ _) _) _)
 have p0 : U.cell? ⟨w.heap.size, 0, none⟩ = some (.int .i64 (sh : Int)) := by subst hUe; exact aE _ _ 24 _ 0 _ rfl rfl
 have p1 : U.cell? ⟨w.heap.size, 1, none⟩ = some (.slice la l.length lc) := by subst hUe; exact aE _ _ 24 _ 1 _ rfl rfl
 have O0 : Hid (W.cell? ⟨w.heap.size + 1, 0, none⟩ = some (.slice q.sa q.sn q.sc) ∧ W.cell? ⟨w.heap.size + 1, 1, none⟩ = some (.slice q.ra q.rn q.rc) ∧ W.cell? ⟨w.heap.size + 1, 2, none⟩ = some (.slice q.wa q.wn q.tc) ∧ W.cell? ⟨w.heap.size + 1, 3, none⟩ = some (.slice q.va q.vn q.vc)) := by subst hWe; exact ⟨aA (aB (Below.refl _ _) _) (aE _ _ 29 _ 0 _ (by simp) rfl), aA (aB (Below.refl _ _) _) (aE _ _ 29 _ 1 _ (by simp) rfl), aA (aB (Below.refl _ _) _) (aE _ _ 29 _ 2 _ (by simp) rfl), aA (aB (Below.refl _ _) _) (aE _ _ 29 _ 3 _ (by simp) rfl)⟩
 have OF0 : Hid (∀ j, W.frozen? ⟨w.heap.size + 1, j, none⟩ = false) := by subst hWe; exact fun j => (((aB (Below.refl _ _) _) : Below _ _ _).frozen (p := ⟨w.heap.size + 1, j, none⟩) (by simp)).trans (aT _ _ 29 _ j (by simp))
 have R0 : Hid (W.cell? ⟨w.heap.size + 2, 0, none⟩ = some (.slice none 0 0) ∧ W.cell? ⟨w.heap.size + 2, 1, none⟩ = some (.slice none 0 0) ∧ W.cell? ⟨w.heap.size + 2, 2, none⟩ = some (.slice none 0 0) ∧ W.cell? ⟨w.heap.size + 2, 3, none⟩ = some (.slice none 0 0)) := by subst hWe; exact ⟨aE _ _ 29 _ 0 _ (by simp) rfl, aE _ _ 29 _ 1 _ (by simp) rfl, aE _ _ 29 _ 2 _ (by simp) rfl, aE _ _ 29 _ 3 _ (by simp) rfl⟩
 have RF0 : Hid (∀ j, W.frozen? ⟨w.heap.size + 2, j, none⟩ = false) := by subst hWe; exact fun j => aT _ _ 29 _ j (by simp)
 have K0 : Hid (KO lo w.heap.size (w.heap.size + 2) (X 0) q W) := hq.ko0 (aC hU.out hUW.out)
 have KEEP : Hid (∀ w', Below U.heap.size U w' → w'.cell? ⟨w.heap.size, 0, none⟩ = some (.int .i64 (sh : Int)) ∧ w'.cell? ⟨w.heap.size, 1, none⟩ = some (.slice la l.length lc)) := fun w' hb => ⟨aA hb p0, aA hb p1⟩
 have HL : Hid (IsTxs U la l) := hl.below hU.out
 have hUO : Hid (U.heap.size ≤ w.heap.size + 1) := by show _ ≤ _; have := szU.out; omega
 have hUR : Hid (U.heap.size ≤ w.heap.size + 2) := by show _ ≤ _; have := szU.out; omega
 have HWe : Hid (W = _) := hWe
 clear hl hq hp hR p0 p1 hWe hUe
 go_enter Tryz.func77, Tryz.ntmps77
 go_upto_region 1 with fail
 rw [← HWe.out]
 clear HWe
 go_wp2
 go_loopw [6] (fun c wr => ∃ (i : Nat) (q : Q4), i ≤ K ∧ c = .int .i64 (i : Nat) ∧ Hid (wr.cell? ⟨w.heap.size + 1, 0, none⟩ = some (.slice q.sa q.sn q.sc) ∧ wr.cell? ⟨w.heap.size + 1, 1, none⟩ = some (.slice q.ra q.rn q.rc) ∧ wr.cell? ⟨w.heap.size + 1, 2, none⟩ = some (.slice q.wa q.wn q.tc) ∧ wr.cell? ⟨w.heap.size + 1, 3, none⟩ = some (.slice q.va q.vn q.vc)) ∧ Hid (∀ j, wr.frozen? ⟨w.heap.size + 1, j, none⟩ = false) ∧ Hid (wr.cell? ⟨w.heap.size + 2, 0, none⟩ = some (.slice none 0 0) ∧ wr.cell? ⟨w.heap.size + 2, 1, none⟩ = some (.slice none 0 0) ∧ wr.cell? ⟨w.heap.size + 2, 2, none⟩ = some (.slice none 0 0) ∧ wr.cell? ⟨w.heap.size + 2, 3, none⟩ = some (.slice none 0 0)) ∧ Hid (∀ j, wr.frozen? ⟨w.heap.size + 2, j, none⟩ = false) ∧ Hid (KO lo w.heap.size (w.heap.size + 2) (X i) q wr) ∧ Hid (Below U.heap.size U wr)) (fun c _ => K - (intOf c).toNat)
 case atStart => exact ⟨0, q, Nat.zero_le _, rfl, O0, OF0, R0, RF0, K0, hUW⟩
 case round =>
  clear O0 OF0 R0 RF0 K0 hUW szW
  obtain ⟨i, q, hi, rfl, OCC, OF, RCC, RF, HK, hB⟩ := hrel
  obtain ⟨o0, o1, o2, o3⟩ := OCC.out
  obtain ⟨s0, s1, s2, s3⟩ := RCC.out
  obtain ⟨p0, p1⟩ := KEEP.out wr hB.out
  have CV : Hid (Calls Tryz.prog 23 #[.agg #[.int .i64 (sh : Int), .slice la l.length lc], .agg #[.slice q.sa q.sn q.sc, .slice q.ra q.rn q.rc, .slice q.wa q.wn q.tc, .slice q.va q.vn q.vc]] wr fun e w' => e = .returned (.bool (decide (i = K))) ∧ Below wr.heap.size wr w') := by
   have h := qH (lc := lc) (HL.out.below hB.out) HK.out.sta HP.out (WF.out i hi)
   rw [WOV.out i hi] at h
   exact h
  go_wp2_with fail
  refine CV.out.mono ?_
  rintro e V ⟨rfl, hb1⟩
  have hwr : w.heap.size + 2 < wr.heap.size := World.block_lt_of_cell? wr ⟨w.heap.size + 2, 0, none⟩ s0
  have HK2 : Hid (KO lo w.heap.size (w.heap.size + 2) (X i) q V) := HK.out.below hb1
  have hB2 : Hid (Below U.heap.size U V) := aC hB.out hb1
  have of_ : ∀ j, V.frozen? ⟨w.heap.size + 1, j, none⟩ = false := fun j => (hb1.frozen (p := ⟨w.heap.size + 1, j, none⟩) (show w.heap.size + 1 < _ by omega)).trans (OF.out j)
  have sf : ∀ j, V.frozen? ⟨w.heap.size + 2, j, none⟩ = false := fun j => (hb1.frozen (p := ⟨w.heap.size + 2, j, none⟩) hwr).trans (RF.out j)
  have hVs : w.heap.size + 2 < V.heap.size := Nat.lt_of_lt_of_le hwr hb1.size
  have o0 := aA hb1 o0
  have o1 := aA hb1 o1
  have o2 := aA hb1 o2
  have o3 := aA hb1 o3
  have s0 := aA hb1 s0
  have s1 := aA hb1 s1
  have s2 := aA hb1 s2
  have s3 := aA hb1 s3
  have p0 := aA hb1 p0
  have p1 := aA hb1 p1
  clear hb1 CV OCC OF RCC RF HK hB hwr
  by_cases hend : i = K
  ·rw [decide_eq_true hend]
   subst hend
   obtain ⟨y0, y1, y2, y3⟩ := kZ q s0 s1 s2 s3
   have FS : Hid (StaF lo (X i) q ((((V.setCell ⟨w.heap.size + 2, 0, none⟩ (.slice q.sa q.sn q.sc)).setCell ⟨w.heap.size + 2, 1, none⟩ (.slice q.ra q.rn q.rc)).setCell ⟨w.heap.size + 2, 2, none⟩ (.slice q.wa q.wn q.tc)).setCell ⟨w.heap.size + 2, 3, none⟩ (.slice q.va q.vn q.vc))) := ((((HK2.out.set (by omega) (Nat.le_refl _) 0 _).set (by omega) (Nat.le_refl _) 1 _).set (by omega) (Nat.le_refl _) 2 _).set (by omega) (Nat.le_refl _) 3 _).staF
   have FB : Hid (Below w.heap.size w ((((V.setCell ⟨w.heap.size + 2, 0, none⟩ (.slice q.sa q.sn q.sc)).setCell ⟨w.heap.size + 2, 1, none⟩ (.slice q.ra q.rn q.rc)).setCell ⟨w.heap.size + 2, 2, none⟩ (.slice q.wa q.wn q.tc)).setCell ⟨w.heap.size + 2, 3, none⟩ (.slice q.va q.vn q.vc))) := aC hU.out (aG (aG (aG (aG hB2.out hUR.out _) hUR.out _) hUR.out _) hUR.out _)
   go_wp2
   refine bodyPost_ret (v := .tuple #[.agg #[.slice q.sa q.sn q.sc, .slice q.ra q.rn q.rc, .slice q.wa q.wn q.tc, .slice q.va q.vn q.vc], .int .i64 (i : Nat)]) (by simp [results, Tryz.results77, go_sem, y0, y1, y2, y3]) rfl ⟨q, rfl, FS.out, FB.out⟩
  ·rw [decide_eq_false hend]
   have hlt : i < K := by omega
   have hL0 := WR.out.can i hlt
   have CN : Hid (∀ w', Below V.heap.size V w' → Calls Tryz.prog 25 #[.agg #[.int .i64 (sh : Int), .slice la l.length lc], .agg #[.slice q.sa q.sn q.sc, .slice q.ra q.rn q.rc, .slice q.wa q.wn q.tc, .slice q.va q.vn q.vc]] w' fun e w'' => ∃ a c, e = .returned (.slice a (bD sh l (X i)).length c) ∧ eE w'' a (bD sh l (X i)) ∧ Below w'.heap.size w' w'') := fun w' hb => docCan_q (HL.out.below (aC hB2.out hb)) (HK2.out.below hb).sta HP.out (WF.out i hi)
   have CD : Hid (∀ w', Below V.heap.size V w' → Calls Tryz.prog 71 #[.agg #[.int .i64 (sh : Int), .slice la l.length lc], .agg #[.slice q.sa q.sn q.sc, .slice q.ra q.rn q.rc, .slice q.wa q.wn q.tc, .slice q.va q.vn q.vc], .agg #[.int .i64 (((bD sh l (X i)).getD 0 (0, 0, 0)).1 : Nat), .int .i64 (((bD sh l (X i)).getD 0 (0, 0, 0)).2.1 : Nat), .int .i64 (((bD sh l (X i)).getD 0 (0, 0, 0)).2.2 : Nat)]] w' fun e w'' => ∃ q' : Q4, e = .returned (.agg #[.slice q'.sa q'.sn q'.sc, .slice q'.ra q'.rn q'.rc, .slice q'.wa q'.wn q'.tc, .slice q'.va q'.vn q'.vc]) ∧ StaF w'.heap.size (X (i + 1)) q' w'' ∧ Below w'.heap.size w' w'') := fun w' hb => by
    have h := qI (lc := lc) (HL.out.below (aC hB2.out hb)) (HK2.out.below hb).sta HP.out (WF.out i hi) (WR.out.kd i hlt) (WR.out.tx i hlt) (WR.out.sd i hlt)
    rw [WR.out.nx i hlt] at h
    exact h
   have hLn : (bD sh l (X i)).length ≤ 64 := by
    obtain ⟨h1, h4, hc⟩ := aX HP.out
    exact oY _ _ _ (dC hc) (by omega)
   generalize bD sh l (X i) = L at *
   have KS : Hid (∀ w', Below V.heap.size V w' → w'.cell? ⟨w.heap.size, 0, none⟩ = some (.int .i64 (sh : Int)) ∧ w'.cell? ⟨w.heap.size, 1, none⟩ = some (.slice la l.length lc) ∧ w'.cell? ⟨w.heap.size + 1, 0, none⟩ = some (.slice q.sa q.sn q.sc) ∧ w'.cell? ⟨w.heap.size + 1, 1, none⟩ = some (.slice q.ra q.rn q.rc) ∧ w'.cell? ⟨w.heap.size + 1, 2, none⟩ = some (.slice q.wa q.wn q.tc) ∧ w'.cell? ⟨w.heap.size + 1, 3, none⟩ = some (.slice q.va q.vn q.vc)) := fun w' hb => ⟨aA hb p0, aA hb p1, aA hb o0, aA hb o1, aA hb o2, aA hb o3⟩
   clear p0 p1
   go_upto_region 3 with fail
   refine wp_region_held_drew (S := (fun w' => w'.cell? ⟨w.heap.size, 0, none⟩ = some (.int .i64 (sh : Int)) ∧ w'.cell? ⟨w.heap.size, 1, none⟩ = some (.slice la l.length lc))) (by kernel_rfl) ?_ (fun hHeld => ?_)
   ·exact (fun h => ⟨h.1, h.2.1⟩) (KS.out _ (aD (Below.refl _ _)))
   refine tk (i := 0) (oi := { dst := some 11, op := .load 24 (.tmp 2), type := 24, pos := "steps.go:197", after := #[], guard := none }) (v := ?_) rfl (by kernel_rfl) (by kernel_rfl) (by kernel_rfl) (fun _ _ _ h => h) (by rfl) (by assumption) ?_ ?_; rotate_left; focus (intro w hSw; go_simp; first | done | with_reducible rfl)
   try simp only [Act.put, List.setIfInBounds_toArray, List.set_cons_zero, List.set_cons_succ]
   refine tk (i := 2) (oi := { dst := some 13, op := .load 24 (.tmp 2), type := 24, pos := "steps.go:197", after := #[], guard := none }) (v := ?_) rfl (by kernel_rfl) (by kernel_rfl) (by kernel_rfl) (fun _ _ _ h => h) (by rfl) (by assumption) ?_ ?_; rotate_left; focus (intro w hSw; go_simp; first | done | with_reducible rfl)
   try simp only [Act.put, List.setIfInBounds_toArray, List.set_cons_zero, List.set_cons_succ]
   refine wpAnyH_ready (rs := [1, 3]) (by kernel_rfl) (by simp) ?_
   refine AllReadyH.cons (o := { dst := some 12, op := .load 29 (.tmp 3), type := 29, pos := "steps.go:197", after := #[], guard := none }) rfl (fun K hK => ?_) (AllReadyH.cons (o := { dst := some 14, op := .load 29 (.tmp 3), type := 29, pos := "steps.go:197", after := #[], guard := none }) rfl (fun K hK => ?_) (AllReadyH.nil))
   ·go_simp
    obtain ⟨_, _, n0, n1, n2, n3⟩ := KS.out _ (aD (Below.refl _ _))
    go_simp
    clear n0 n1 n2 n3
    clear hHeld
    refine hK.out _ _ ((fun h => ⟨h.1, h.2.1⟩) (KS.out _ (aD (Below.refl _ _)))) (fun hHeld => ?_)
    clear hK K
    refine wpAnyH_ready (rs := [3]) (by kernel_rfl) (by simp) ?_
    refine AllReadyH.cons (o := { dst := some 14, op := .load 29 (.tmp 3), type := 29, pos := "steps.go:197", after := #[], guard := none }) rfl (fun K hK => ?_) (AllReadyH.nil)
    go_simp
    obtain ⟨_, _, n0, n1, n2, n3⟩ := KS.out _ (aD (Below.refl _ _))
    go_simp
    clear n0 n1 n2 n3
    clear hHeld
    refine hK.out _ _ ((fun h => ⟨h.1, h.2.1⟩) (KS.out _ (aD (Below.refl _ _)))) (fun hHeld => ?_)
    clear hK K
    refine wpAnyH_ready (rs := [4]) (by kernel_rfl) (by simp) ?_
    refine AllReadyH.cons (o := { dst := some 15, op := .call { callee := .value (.func 25), args := #[.tmp 13, .tmp 14], argTypes := #[24, 29] }, type := 43, pos := "steps.go:197", after := #[{ on := 2, ground := .data }, { on := 3, ground := .data }], guard := none }) rfl (fun K hK => ?_) (AllReadyH.nil)
    go_simp
    go_wp2_with (go_at_call 25; refine (CN.out _ (aD (Below.refl _ _))).mono ?_; rintro e w3 ⟨a, c, rfl, hsp, hb3⟩)
    have B3 : Hid (Below V.heap.size V w3) := aC (aD (Below.refl _ _)) hb3
    obtain ⟨sb, so, es, _, c0, c1, c2⟩ := hsp 0 hL0
    subst es
    rw [Nat.zero_mul, Nat.add_zero] at c0 c1 c2
    clear hsp hb3
    generalize ((L.getD 0 (0, 0, 0)).1 : Nat) = x1 at *
    generalize ((L.getD 0 (0, 0, 0)).2.1 : Nat) = x2 at *
    generalize ((L.getD 0 (0, 0, 0)).2.2 : Nat) = x3 at *
    have hL0' : (0 : Int) < (L.length : Int) := by omega
    clear hHeld
    refine hK.out _ _ ((fun h => ⟨h.1, h.2.1⟩) (KS.out _ B3.out)) (fun hHeld => ?_)
    clear hK K
    refine tk (i := 5) (oi := { dst := some 16, op := .indexAddr 43 (.tmp 15) (.const (.int .i64 0)), type := 0, pos := "steps.go:197", after := #[{ on := 4, ground := .data }], guard := none }) (v := ?_) rfl (by kernel_rfl) (by kernel_rfl) (by kernel_rfl) (fun _ _ _ h => h) (by rfl) (by assumption) ?_ ?_; rotate_left; focus (intro w hSw; go_simp; first | done | with_reducible rfl)
    try simp only [Act.put, List.setIfInBounds_toArray, List.set_cons_zero, List.set_cons_succ]
    refine wpAnyH_ready (rs := [6]) (by kernel_rfl) (by simp) ?_
    refine AllReadyH.cons (o := { dst := some 17, op := .load 48 (.tmp 16), type := 48, pos := "steps.go:197", after := #[{ on := 5, ground := .data }], guard := none }) rfl (fun K hK => ?_) (AllReadyH.nil)
    go_simp
    skip
    clear hHeld
    refine hK.out _ _ ((fun h => ⟨h.1, h.2.1⟩) (KS.out _ B3.out)) (fun hHeld => ?_)
    clear hK K
    refine wpAnyH_ready (rs := [7]) (by kernel_rfl) (by simp) ?_
    refine AllReadyH.cons (o := { dst := some 18, op := .call { callee := .value (.func 71), args := #[.tmp 11, .tmp 12, .tmp 17], argTypes := #[24, 29, 48] }, type := 29, pos := "steps.go:197", after := #[{ on := 0, ground := .data }, { on := 1, ground := .data }, { on := 6, ground := .data }, { on := 4, ground := .chain }], guard := none }) rfl (fun K hK => ?_) (AllReadyH.nil)
    go_simp
    go_wp2_with (go_at_call 71; refine (CD.out _ B3.out).mono ?_; rintro e w4 ⟨q5, rfl, h5, hb4⟩)
    have B4 : Hid (Below V.heap.size V w4) := aC B3.out hb4
    have z0 := aA B4.out o0
    have z1 := aA B4.out o1
    have z2 := aA B4.out o2
    have z3 := aA B4.out o3
    have zf : ∀ j, w4.frozen? ⟨w.heap.size + 1, j, none⟩ = false := fun j => (B4.out.frozen (p := ⟨w.heap.size + 1, j, none⟩) (World.block_lt_of_cell? V ⟨w.heap.size + 1, 0, none⟩ o0)).trans (of_ j)
    obtain ⟨YY, PFz, HK5, BP⟩ := eJ (lo := lo) (R0 := w.heap.size + 2) hB2.out B4.out hUO.out o0 o1 o2 o3 of_ h5 (by have := hlo; have := B3.out.size; have := hVs; omega) (show w.heap.size ≤ _ by omega) (by omega) (by have := B3.out.size; have := hVs; omega)
    have RS : Hid (((((w4.setCell ⟨w.heap.size + 1, 0, none⟩ (.slice q5.sa q5.sn q5.sc)).setCell ⟨w.heap.size + 1, 1, none⟩ (.slice q5.ra q5.rn q5.rc)).setCell ⟨w.heap.size + 1, 2, none⟩ (.slice q5.wa q5.wn q5.tc)).setCell ⟨w.heap.size + 1, 3, none⟩ (.slice q5.va q5.vn q5.vc)).cell? ⟨w.heap.size + 2, 0, none⟩ = some (.slice none 0 0) ∧ ((((w4.setCell ⟨w.heap.size + 1, 0, none⟩ (.slice q5.sa q5.sn q5.sc)).setCell ⟨w.heap.size + 1, 1, none⟩ (.slice q5.ra q5.rn q5.rc)).setCell ⟨w.heap.size + 1, 2, none⟩ (.slice q5.wa q5.wn q5.tc)).setCell ⟨w.heap.size + 1, 3, none⟩ (.slice q5.va q5.vn q5.vc)).cell? ⟨w.heap.size + 2, 1, none⟩ = some (.slice none 0 0) ∧ ((((w4.setCell ⟨w.heap.size + 1, 0, none⟩ (.slice q5.sa q5.sn q5.sc)).setCell ⟨w.heap.size + 1, 1, none⟩ (.slice q5.ra q5.rn q5.rc)).setCell ⟨w.heap.size + 1, 2, none⟩ (.slice q5.wa q5.wn q5.tc)).setCell ⟨w.heap.size + 1, 3, none⟩ (.slice q5.va q5.vn q5.vc)).cell? ⟨w.heap.size + 2, 2, none⟩ = some (.slice none 0 0) ∧ ((((w4.setCell ⟨w.heap.size + 1, 0, none⟩ (.slice q5.sa q5.sn q5.sc)).setCell ⟨w.heap.size + 1, 1, none⟩ (.slice q5.ra q5.rn q5.rc)).setCell ⟨w.heap.size + 1, 2, none⟩ (.slice q5.wa q5.wn q5.tc)).setCell ⟨w.heap.size + 1, 3, none⟩ (.slice q5.va q5.vn q5.vc)).cell? ⟨w.heap.size + 2, 3, none⟩ = some (.slice none 0 0)) := ⟨aO (by omega) (aA B4.out s0), aO (by omega) (aA B4.out s1), aO (by omega) (aA B4.out s2), aO (by omega) (aA B4.out s3)⟩
    have RZ : Hid (∀ j, ((((w4.setCell ⟨w.heap.size + 1, 0, none⟩ (.slice q5.sa q5.sn q5.sc)).setCell ⟨w.heap.size + 1, 1, none⟩ (.slice q5.ra q5.rn q5.rc)).setCell ⟨w.heap.size + 1, 2, none⟩ (.slice q5.wa q5.wn q5.tc)).setCell ⟨w.heap.size + 1, 3, none⟩ (.slice q5.va q5.vn q5.vc)).frozen? ⟨w.heap.size + 2, j, none⟩ = false) := fun j => by
     have h := (B4.out.frozen (p := ⟨w.heap.size + 2, j, none⟩) (World.block_lt_of_cell? V ⟨w.heap.size + 2, 0, none⟩ s0)).trans (sf j)
     simpa using h
    have PF : Hid (((((w4.setCell ⟨w.heap.size + 1, 0, none⟩ (.slice q5.sa q5.sn q5.sc)).setCell ⟨w.heap.size + 1, 1, none⟩ (.slice q5.ra q5.rn q5.rc)).setCell ⟨w.heap.size + 1, 2, none⟩ (.slice q5.wa q5.wn q5.tc)).setCell ⟨w.heap.size + 1, 3, none⟩ (.slice q5.va q5.vn q5.vc)).cell? ⟨w.heap.size, 0, none⟩ = some (.int .i64 (sh : Int)) ∧ ((((w4.setCell ⟨w.heap.size + 1, 0, none⟩ (.slice q5.sa q5.sn q5.sc)).setCell ⟨w.heap.size + 1, 1, none⟩ (.slice q5.ra q5.rn q5.rc)).setCell ⟨w.heap.size + 1, 2, none⟩ (.slice q5.wa q5.wn q5.tc)).setCell ⟨w.heap.size + 1, 3, none⟩ (.slice q5.va q5.vn q5.vc)).cell? ⟨w.heap.size, 1, none⟩ = some (.slice la l.length lc)) := ⟨aO (by omega) (KS.out _ B4.out).1, aO (by omega) (KS.out _ B4.out).2.1⟩
    clear hHeld
    refine hK.out _ _ ((fun h => ⟨h.1, h.2.1⟩) (KS.out _ B4.out)) (fun hHeld => ?_)
    clear hK K
    refine wpAnyH_ready (rs := [8]) (by kernel_rfl) (by simp) ?_
    refine AllReadyH.cons (o := { dst := none, op := .store 29 (.tmp 3) (.tmp 18), type := 0, pos := "steps.go:197", after := #[{ on := 7, ground := .data }, { on := 7, ground := .chain }, { on := 0, ground := .phase }, { on := 1, ground := .phase }, { on := 2, ground := .phase }, { on := 3, ground := .phase }, { on := 4, ground := .phase }, { on := 5, ground := .phase }, { on := 6, ground := .phase }, { on := 7, ground := .phase }], guard := none }) rfl (fun K hK => ?_) (AllReadyH.nil)
    go_simp
    skip
    clear hHeld
    refine hK.out _ _ (PF.out) (fun hHeld => ?_)
    clear hK K
    refine wpAnyH_done (by kernel_rfl) ?_ _
    clear hHeld KS CN CD
    go_wp2
    go_roundw
    case rel => exact ⟨i + 1, q5, hlt, by go_num, YY, PFz, RS, RZ, HK5, BP⟩
    case measure => simp [intOf]; omega
   ·go_simp
    obtain ⟨_, _, n0, n1, n2, n3⟩ := KS.out _ (aD (Below.refl _ _))
    go_simp
    clear n0 n1 n2 n3
    clear hHeld
    refine hK.out _ _ ((fun h => ⟨h.1, h.2.1⟩) (KS.out _ (aD (Below.refl _ _)))) (fun hHeld => ?_)
    clear hK K
    refine wpAnyH_ready (rs := [1, 4]) (by kernel_rfl) (by simp) ?_
    refine AllReadyH.cons (o := { dst := some 12, op := .load 29 (.tmp 3), type := 29, pos := "steps.go:197", after := #[], guard := none }) rfl (fun K hK => ?_) (AllReadyH.cons (o := { dst := some 15, op := .call { callee := .value (.func 25), args := #[.tmp 13, .tmp 14], argTypes := #[24, 29] }, type := 43, pos := "steps.go:197", after := #[{ on := 2, ground := .data }, { on := 3, ground := .data }], guard := none }) rfl (fun K hK => ?_) (AllReadyH.nil))
    ·go_simp
     obtain ⟨_, _, n0, n1, n2, n3⟩ := KS.out _ (aD (Below.refl _ _))
     go_simp
     clear n0 n1 n2 n3
     clear hHeld
     refine hK.out _ _ ((fun h => ⟨h.1, h.2.1⟩) (KS.out _ (aD (Below.refl _ _)))) (fun hHeld => ?_)
     clear hK K
     refine wpAnyH_ready (rs := [4]) (by kernel_rfl) (by simp) ?_
     refine AllReadyH.cons (o := { dst := some 15, op := .call { callee := .value (.func 25), args := #[.tmp 13, .tmp 14], argTypes := #[24, 29] }, type := 43, pos := "steps.go:197", after := #[{ on := 2, ground := .data }, { on := 3, ground := .data }], guard := none }) rfl (fun K hK => ?_) (AllReadyH.nil)
     go_simp
     go_wp2_with (go_at_call 25; refine (CN.out _ (aD (Below.refl _ _))).mono ?_; rintro e w3 ⟨a, c, rfl, hsp, hb3⟩)
     have B3 : Hid (Below V.heap.size V w3) := aC (aD (Below.refl _ _)) hb3
     obtain ⟨sb, so, es, _, c0, c1, c2⟩ := hsp 0 hL0
     subst es
     rw [Nat.zero_mul, Nat.add_zero] at c0 c1 c2
     clear hsp hb3
     generalize ((L.getD 0 (0, 0, 0)).1 : Nat) = x1 at *
     generalize ((L.getD 0 (0, 0, 0)).2.1 : Nat) = x2 at *
     generalize ((L.getD 0 (0, 0, 0)).2.2 : Nat) = x3 at *
     have hL0' : (0 : Int) < (L.length : Int) := by omega
     clear hHeld
     refine hK.out _ _ ((fun h => ⟨h.1, h.2.1⟩) (KS.out _ B3.out)) (fun hHeld => ?_)
     clear hK K
     refine tk (i := 5) (oi := { dst := some 16, op := .indexAddr 43 (.tmp 15) (.const (.int .i64 0)), type := 0, pos := "steps.go:197", after := #[{ on := 4, ground := .data }], guard := none }) (v := ?_) rfl (by kernel_rfl) (by kernel_rfl) (by kernel_rfl) (fun _ _ _ h => h) (by rfl) (by assumption) ?_ ?_; rotate_left; focus (intro w hSw; go_simp; first | done | with_reducible rfl)
     try simp only [Act.put, List.setIfInBounds_toArray, List.set_cons_zero, List.set_cons_succ]
     refine wpAnyH_ready (rs := [6]) (by kernel_rfl) (by simp) ?_
     refine AllReadyH.cons (o := { dst := some 17, op := .load 48 (.tmp 16), type := 48, pos := "steps.go:197", after := #[{ on := 5, ground := .data }], guard := none }) rfl (fun K hK => ?_) (AllReadyH.nil)
     go_simp
     skip
     clear hHeld
     refine hK.out _ _ ((fun h => ⟨h.1, h.2.1⟩) (KS.out _ B3.out)) (fun hHeld => ?_)
     clear hK K
     refine wpAnyH_ready (rs := [7]) (by kernel_rfl) (by simp) ?_
     refine AllReadyH.cons (o := { dst := some 18, op := .call { callee := .value (.func 71), args := #[.tmp 11, .tmp 12, .tmp 17], argTypes := #[24, 29, 48] }, type := 29, pos := "steps.go:197", after := #[{ on := 0, ground := .data }, { on := 1, ground := .data }, { on := 6, ground := .data }, { on := 4, ground := .chain }], guard := none }) rfl (fun K hK => ?_) (AllReadyH.nil)
     go_simp
     go_wp2_with (go_at_call 71; refine (CD.out _ B3.out).mono ?_; rintro e w4 ⟨q5, rfl, h5, hb4⟩)
     have B4 : Hid (Below V.heap.size V w4) := aC B3.out hb4
     have z0 := aA B4.out o0
     have z1 := aA B4.out o1
     have z2 := aA B4.out o2
     have z3 := aA B4.out o3
     have zf : ∀ j, w4.frozen? ⟨w.heap.size + 1, j, none⟩ = false := fun j => (B4.out.frozen (p := ⟨w.heap.size + 1, j, none⟩) (World.block_lt_of_cell? V ⟨w.heap.size + 1, 0, none⟩ o0)).trans (of_ j)
     obtain ⟨YY, PFz, HK5, BP⟩ := eJ (lo := lo) (R0 := w.heap.size + 2) hB2.out B4.out hUO.out o0 o1 o2 o3 of_ h5 (by have := hlo; have := B3.out.size; have := hVs; omega) (show w.heap.size ≤ _ by omega) (by omega) (by have := B3.out.size; have := hVs; omega)
     have RS : Hid (((((w4.setCell ⟨w.heap.size + 1, 0, none⟩ (.slice q5.sa q5.sn q5.sc)).setCell ⟨w.heap.size + 1, 1, none⟩ (.slice q5.ra q5.rn q5.rc)).setCell ⟨w.heap.size + 1, 2, none⟩ (.slice q5.wa q5.wn q5.tc)).setCell ⟨w.heap.size + 1, 3, none⟩ (.slice q5.va q5.vn q5.vc)).cell? ⟨w.heap.size + 2, 0, none⟩ = some (.slice none 0 0) ∧ ((((w4.setCell ⟨w.heap.size + 1, 0, none⟩ (.slice q5.sa q5.sn q5.sc)).setCell ⟨w.heap.size + 1, 1, none⟩ (.slice q5.ra q5.rn q5.rc)).setCell ⟨w.heap.size + 1, 2, none⟩ (.slice q5.wa q5.wn q5.tc)).setCell ⟨w.heap.size + 1, 3, none⟩ (.slice q5.va q5.vn q5.vc)).cell? ⟨w.heap.size + 2, 1, none⟩ = some (.slice none 0 0) ∧ ((((w4.setCell ⟨w.heap.size + 1, 0, none⟩ (.slice q5.sa q5.sn q5.sc)).setCell ⟨w.heap.size + 1, 1, none⟩ (.slice q5.ra q5.rn q5.rc)).setCell ⟨w.heap.size + 1, 2, none⟩ (.slice q5.wa q5.wn q5.tc)).setCell ⟨w.heap.size + 1, 3, none⟩ (.slice q5.va q5.vn q5.vc)).cell? ⟨w.heap.size + 2, 2, none⟩ = some (.slice none 0 0) ∧ ((((w4.setCell ⟨w.heap.size + 1, 0, none⟩ (.slice q5.sa q5.sn q5.sc)).setCell ⟨w.heap.size + 1, 1, none⟩ (.slice q5.ra q5.rn q5.rc)).setCell ⟨w.heap.size + 1, 2, none⟩ (.slice q5.wa q5.wn q5.tc)).setCell ⟨w.heap.size + 1, 3, none⟩ (.slice q5.va q5.vn q5.vc)).cell? ⟨w.heap.size + 2, 3, none⟩ = some (.slice none 0 0)) := ⟨aO (by omega) (aA B4.out s0), aO (by omega) (aA B4.out s1), aO (by omega) (aA B4.out s2), aO (by omega) (aA B4.out s3)⟩
     have RZ : Hid (∀ j, ((((w4.setCell ⟨w.heap.size + 1, 0, none⟩ (.slice q5.sa q5.sn q5.sc)).setCell ⟨w.heap.size + 1, 1, none⟩ (.slice q5.ra q5.rn q5.rc)).setCell ⟨w.heap.size + 1, 2, none⟩ (.slice q5.wa q5.wn q5.tc)).setCell ⟨w.heap.size + 1, 3, none⟩ (.slice q5.va q5.vn q5.vc)).frozen? ⟨w.heap.size + 2, j, none⟩ = false) := fun j => by
      have h := (B4.out.frozen (p := ⟨w.heap.size + 2, j, none⟩) (World.block_lt_of_cell? V ⟨w.heap.size + 2, 0, none⟩ s0)).trans (sf j)
      simpa using h
     have PF : Hid (((((w4.setCell ⟨w.heap.size + 1, 0, none⟩ (.slice q5.sa q5.sn q5.sc)).setCell ⟨w.heap.size + 1, 1, none⟩ (.slice q5.ra q5.rn q5.rc)).setCell ⟨w.heap.size + 1, 2, none⟩ (.slice q5.wa q5.wn q5.tc)).setCell ⟨w.heap.size + 1, 3, none⟩ (.slice q5.va q5.vn q5.vc)).cell? ⟨w.heap.size, 0, none⟩ = some (.int .i64 (sh : Int)) ∧ ((((w4.setCell ⟨w.heap.size + 1, 0, none⟩ (.slice q5.sa q5.sn q5.sc)).setCell ⟨w.heap.size + 1, 1, none⟩ (.slice q5.ra q5.rn q5.rc)).setCell ⟨w.heap.size + 1, 2, none⟩ (.slice q5.wa q5.wn q5.tc)).setCell ⟨w.heap.size + 1, 3, none⟩ (.slice q5.va q5.vn q5.vc)).cell? ⟨w.heap.size, 1, none⟩ = some (.slice la l.length lc)) := ⟨aO (by omega) (KS.out _ B4.out).1, aO (by omega) (KS.out _ B4.out).2.1⟩
     clear hHeld
     refine hK.out _ _ ((fun h => ⟨h.1, h.2.1⟩) (KS.out _ B4.out)) (fun hHeld => ?_)
     clear hK K
     refine wpAnyH_ready (rs := [8]) (by kernel_rfl) (by simp) ?_
     refine AllReadyH.cons (o := { dst := none, op := .store 29 (.tmp 3) (.tmp 18), type := 0, pos := "steps.go:197", after := #[{ on := 7, ground := .data }, { on := 7, ground := .chain }, { on := 0, ground := .phase }, { on := 1, ground := .phase }, { on := 2, ground := .phase }, { on := 3, ground := .phase }, { on := 4, ground := .phase }, { on := 5, ground := .phase }, { on := 6, ground := .phase }, { on := 7, ground := .phase }], guard := none }) rfl (fun K hK => ?_) (AllReadyH.nil)
     go_simp
     skip
     clear hHeld
     refine hK.out _ _ (PF.out) (fun hHeld => ?_)
     clear hK K
     refine wpAnyH_done (by kernel_rfl) ?_ _
     clear hHeld KS CN CD
     go_wp2
     go_roundw
     case rel => exact ⟨i + 1, q5, hlt, by go_num, YY, PFz, RS, RZ, HK5, BP⟩
     case measure => simp [intOf]; omega
    ·go_simp
     go_wp2_with (go_at_call 25; refine (CN.out _ (aD (Below.refl _ _))).mono ?_; rintro e w3 ⟨a, c, rfl, hsp, hb3⟩)
     have B3 : Hid (Below V.heap.size V w3) := aC (aD (Below.refl _ _)) hb3
     obtain ⟨sb, so, es, _, c0, c1, c2⟩ := hsp 0 hL0
     subst es
     rw [Nat.zero_mul, Nat.add_zero] at c0 c1 c2
     clear hsp hb3
     generalize ((L.getD 0 (0, 0, 0)).1 : Nat) = x1 at *
     generalize ((L.getD 0 (0, 0, 0)).2.1 : Nat) = x2 at *
     generalize ((L.getD 0 (0, 0, 0)).2.2 : Nat) = x3 at *
     have hL0' : (0 : Int) < (L.length : Int) := by omega
     clear hHeld
     refine hK.out _ _ ((fun h => ⟨h.1, h.2.1⟩) (KS.out _ B3.out)) (fun hHeld => ?_)
     clear hK K
     refine tk (i := 5) (oi := { dst := some 16, op := .indexAddr 43 (.tmp 15) (.const (.int .i64 0)), type := 0, pos := "steps.go:197", after := #[{ on := 4, ground := .data }], guard := none }) (v := ?_) rfl (by kernel_rfl) (by kernel_rfl) (by kernel_rfl) (fun _ _ _ h => h) (by rfl) (by assumption) ?_ ?_; rotate_left; focus (intro w hSw; go_simp; first | done | with_reducible rfl)
     try simp only [Act.put, List.setIfInBounds_toArray, List.set_cons_zero, List.set_cons_succ]
     refine wpAnyH_ready (rs := [1, 6]) (by kernel_rfl) (by simp) ?_
     refine AllReadyH.cons (o := { dst := some 12, op := .load 29 (.tmp 3), type := 29, pos := "steps.go:197", after := #[], guard := none }) rfl (fun K hK => ?_) (AllReadyH.cons (o := { dst := some 17, op := .load 48 (.tmp 16), type := 48, pos := "steps.go:197", after := #[{ on := 5, ground := .data }], guard := none }) rfl (fun K hK => ?_) (AllReadyH.nil))
     ·go_simp
      obtain ⟨_, _, n0, n1, n2, n3⟩ := KS.out _ B3.out
      go_simp
      clear n0 n1 n2 n3
      clear hHeld
      refine hK.out _ _ ((fun h => ⟨h.1, h.2.1⟩) (KS.out _ B3.out)) (fun hHeld => ?_)
      clear hK K
      refine wpAnyH_ready (rs := [6]) (by kernel_rfl) (by simp) ?_
      refine AllReadyH.cons (o := { dst := some 17, op := .load 48 (.tmp 16), type := 48, pos := "steps.go:197", after := #[{ on := 5, ground := .data }], guard := none }) rfl (fun K hK => ?_) (AllReadyH.nil)
      go_simp
      skip
      clear hHeld
      refine hK.out _ _ ((fun h => ⟨h.1, h.2.1⟩) (KS.out _ B3.out)) (fun hHeld => ?_)
      clear hK K
      refine wpAnyH_ready (rs := [7]) (by kernel_rfl) (by simp) ?_
      refine AllReadyH.cons (o := { dst := some 18, op := .call { callee := .value (.func 71), args := #[.tmp 11, .tmp 12, .tmp 17], argTypes := #[24, 29, 48] }, type := 29, pos := "steps.go:197", after := #[{ on := 0, ground := .data }, { on := 1, ground := .data }, { on := 6, ground := .data }, { on := 4, ground := .chain }], guard := none }) rfl (fun K hK => ?_) (AllReadyH.nil)
      go_simp
      go_wp2_with (go_at_call 71; refine (CD.out _ B3.out).mono ?_; rintro e w4 ⟨q5, rfl, h5, hb4⟩)
      have B4 : Hid (Below V.heap.size V w4) := aC B3.out hb4
      have z0 := aA B4.out o0
      have z1 := aA B4.out o1
      have z2 := aA B4.out o2
      have z3 := aA B4.out o3
      have zf : ∀ j, w4.frozen? ⟨w.heap.size + 1, j, none⟩ = false := fun j => (B4.out.frozen (p := ⟨w.heap.size + 1, j, none⟩) (World.block_lt_of_cell? V ⟨w.heap.size + 1, 0, none⟩ o0)).trans (of_ j)
      obtain ⟨YY, PFz, HK5, BP⟩ := eJ (lo := lo) (R0 := w.heap.size + 2) hB2.out B4.out hUO.out o0 o1 o2 o3 of_ h5 (by have := hlo; have := B3.out.size; have := hVs; omega) (show w.heap.size ≤ _ by omega) (by omega) (by have := B3.out.size; have := hVs; omega)
      have RS : Hid (((((w4.setCell ⟨w.heap.size + 1, 0, none⟩ (.slice q5.sa q5.sn q5.sc)).setCell ⟨w.heap.size + 1, 1, none⟩ (.slice q5.ra q5.rn q5.rc)).setCell ⟨w.heap.size + 1, 2, none⟩ (.slice q5.wa q5.wn q5.tc)).setCell ⟨w.heap.size + 1, 3, none⟩ (.slice q5.va q5.vn q5.vc)).cell? ⟨w.heap.size + 2, 0, none⟩ = some (.slice none 0 0) ∧ ((((w4.setCell ⟨w.heap.size + 1, 0, none⟩ (.slice q5.sa q5.sn q5.sc)).setCell ⟨w.heap.size + 1, 1, none⟩ (.slice q5.ra q5.rn q5.rc)).setCell ⟨w.heap.size + 1, 2, none⟩ (.slice q5.wa q5.wn q5.tc)).setCell ⟨w.heap.size + 1, 3, none⟩ (.slice q5.va q5.vn q5.vc)).cell? ⟨w.heap.size + 2, 1, none⟩ = some (.slice none 0 0) ∧ ((((w4.setCell ⟨w.heap.size + 1, 0, none⟩ (.slice q5.sa q5.sn q5.sc)).setCell ⟨w.heap.size + 1, 1, none⟩ (.slice q5.ra q5.rn q5.rc)).setCell ⟨w.heap.size + 1, 2, none⟩ (.slice q5.wa q5.wn q5.tc)).setCell ⟨w.heap.size + 1, 3, none⟩ (.slice q5.va q5.vn q5.vc)).cell? ⟨w.heap.size + 2, 2, none⟩ = some (.slice none 0 0) ∧ ((((w4.setCell ⟨w.heap.size + 1, 0, none⟩ (.slice q5.sa q5.sn q5.sc)).setCell ⟨w.heap.size + 1, 1, none⟩ (.slice q5.ra q5.rn q5.rc)).setCell ⟨w.heap.size + 1, 2, none⟩ (.slice q5.wa q5.wn q5.tc)).setCell ⟨w.heap.size + 1, 3, none⟩ (.slice q5.va q5.vn q5.vc)).cell? ⟨w.heap.size + 2, 3, none⟩ = some (.slice none 0 0)) := ⟨aO (by omega) (aA B4.out s0), aO (by omega) (aA B4.out s1), aO (by omega) (aA B4.out s2), aO (by omega) (aA B4.out s3)⟩
      have RZ : Hid (∀ j, ((((w4.setCell ⟨w.heap.size + 1, 0, none⟩ (.slice q5.sa q5.sn q5.sc)).setCell ⟨w.heap.size + 1, 1, none⟩ (.slice q5.ra q5.rn q5.rc)).setCell ⟨w.heap.size + 1, 2, none⟩ (.slice q5.wa q5.wn q5.tc)).setCell ⟨w.heap.size + 1, 3, none⟩ (.slice q5.va q5.vn q5.vc)).frozen? ⟨w.heap.size + 2, j, none⟩ = false) := fun j => by
       have h := (B4.out.frozen (p := ⟨w.heap.size + 2, j, none⟩) (World.block_lt_of_cell? V ⟨w.heap.size + 2, 0, none⟩ s0)).trans (sf j)
       simpa using h
      have PF : Hid (((((w4.setCell ⟨w.heap.size + 1, 0, none⟩ (.slice q5.sa q5.sn q5.sc)).setCell ⟨w.heap.size + 1, 1, none⟩ (.slice q5.ra q5.rn q5.rc)).setCell ⟨w.heap.size + 1, 2, none⟩ (.slice q5.wa q5.wn q5.tc)).setCell ⟨w.heap.size + 1, 3, none⟩ (.slice q5.va q5.vn q5.vc)).cell? ⟨w.heap.size, 0, none⟩ = some (.int .i64 (sh : Int)) ∧ ((((w4.setCell ⟨w.heap.size + 1, 0, none⟩ (.slice q5.sa q5.sn q5.sc)).setCell ⟨w.heap.size + 1, 1, none⟩ (.slice q5.ra q5.rn q5.rc)).setCell ⟨w.heap.size + 1, 2, none⟩ (.slice q5.wa q5.wn q5.tc)).setCell ⟨w.heap.size + 1, 3, none⟩ (.slice q5.va q5.vn q5.vc)).cell? ⟨w.heap.size, 1, none⟩ = some (.slice la l.length lc)) := ⟨aO (by omega) (KS.out _ B4.out).1, aO (by omega) (KS.out _ B4.out).2.1⟩
      clear hHeld
      refine hK.out _ _ ((fun h => ⟨h.1, h.2.1⟩) (KS.out _ B4.out)) (fun hHeld => ?_)
      clear hK K
      refine wpAnyH_ready (rs := [8]) (by kernel_rfl) (by simp) ?_
      refine AllReadyH.cons (o := { dst := none, op := .store 29 (.tmp 3) (.tmp 18), type := 0, pos := "steps.go:197", after := #[{ on := 7, ground := .data }, { on := 7, ground := .chain }, { on := 0, ground := .phase }, { on := 1, ground := .phase }, { on := 2, ground := .phase }, { on := 3, ground := .phase }, { on := 4, ground := .phase }, { on := 5, ground := .phase }, { on := 6, ground := .phase }, { on := 7, ground := .phase }], guard := none }) rfl (fun K hK => ?_) (AllReadyH.nil)
      go_simp
      skip
      clear hHeld
      refine hK.out _ _ (PF.out) (fun hHeld => ?_)
      clear hK K
      refine wpAnyH_done (by kernel_rfl) ?_ _
      clear hHeld KS CN CD
      go_wp2
      go_roundw
      case rel => exact ⟨i + 1, q5, hlt, by go_num, YY, PFz, RS, RZ, HK5, BP⟩
      case measure => simp [intOf]; omega
     ·go_simp
      skip
      clear hHeld
      refine hK.out _ _ ((fun h => ⟨h.1, h.2.1⟩) (KS.out _ B3.out)) (fun hHeld => ?_)
      clear hK K
      refine wpAnyH_ready (rs := [1]) (by kernel_rfl) (by simp) ?_
      refine AllReadyH.cons (o := { dst := some 12, op := .load 29 (.tmp 3), type := 29, pos := "steps.go:197", after := #[], guard := none }) rfl (fun K hK => ?_) (AllReadyH.nil)
      go_simp
      obtain ⟨_, _, n0, n1, n2, n3⟩ := KS.out _ B3.out
      go_simp
      clear n0 n1 n2 n3
      clear hHeld
      refine hK.out _ _ ((fun h => ⟨h.1, h.2.1⟩) (KS.out _ B3.out)) (fun hHeld => ?_)
      clear hK K
      refine wpAnyH_ready (rs := [7]) (by kernel_rfl) (by simp) ?_
      refine AllReadyH.cons (o := { dst := some 18, op := .call { callee := .value (.func 71), args := #[.tmp 11, .tmp 12, .tmp 17], argTypes := #[24, 29, 48] }, type := 29, pos := "steps.go:197", after := #[{ on := 0, ground := .data }, { on := 1, ground := .data }, { on := 6, ground := .data }, { on := 4, ground := .chain }], guard := none }) rfl (fun K hK => ?_) (AllReadyH.nil)
      go_simp
      go_wp2_with (go_at_call 71; refine (CD.out _ B3.out).mono ?_; rintro e w4 ⟨q5, rfl, h5, hb4⟩)
      have B4 : Hid (Below V.heap.size V w4) := aC B3.out hb4
      have z0 := aA B4.out o0
      have z1 := aA B4.out o1
      have z2 := aA B4.out o2
      have z3 := aA B4.out o3
      have zf : ∀ j, w4.frozen? ⟨w.heap.size + 1, j, none⟩ = false := fun j => (B4.out.frozen (p := ⟨w.heap.size + 1, j, none⟩) (World.block_lt_of_cell? V ⟨w.heap.size + 1, 0, none⟩ o0)).trans (of_ j)
      obtain ⟨YY, PFz, HK5, BP⟩ := eJ (lo := lo) (R0 := w.heap.size + 2) hB2.out B4.out hUO.out o0 o1 o2 o3 of_ h5 (by have := hlo; have := B3.out.size; have := hVs; omega) (show w.heap.size ≤ _ by omega) (by omega) (by have := B3.out.size; have := hVs; omega)
      have RS : Hid (((((w4.setCell ⟨w.heap.size + 1, 0, none⟩ (.slice q5.sa q5.sn q5.sc)).setCell ⟨w.heap.size + 1, 1, none⟩ (.slice q5.ra q5.rn q5.rc)).setCell ⟨w.heap.size + 1, 2, none⟩ (.slice q5.wa q5.wn q5.tc)).setCell ⟨w.heap.size + 1, 3, none⟩ (.slice q5.va q5.vn q5.vc)).cell? ⟨w.heap.size + 2, 0, none⟩ = some (.slice none 0 0) ∧ ((((w4.setCell ⟨w.heap.size + 1, 0, none⟩ (.slice q5.sa q5.sn q5.sc)).setCell ⟨w.heap.size + 1, 1, none⟩ (.slice q5.ra q5.rn q5.rc)).setCell ⟨w.heap.size + 1, 2, none⟩ (.slice q5.wa q5.wn q5.tc)).setCell ⟨w.heap.size + 1, 3, none⟩ (.slice q5.va q5.vn q5.vc)).cell? ⟨w.heap.size + 2, 1, none⟩ = some (.slice none 0 0) ∧ ((((w4.setCell ⟨w.heap.size + 1, 0, none⟩ (.slice q5.sa q5.sn q5.sc)).setCell ⟨w.heap.size + 1, 1, none⟩ (.slice q5.ra q5.rn q5.rc)).setCell ⟨w.heap.size + 1, 2, none⟩ (.slice q5.wa q5.wn q5.tc)).setCell ⟨w.heap.size + 1, 3, none⟩ (.slice q5.va q5.vn q5.vc)).cell? ⟨w.heap.size + 2, 2, none⟩ = some (.slice none 0 0) ∧ ((((w4.setCell ⟨w.heap.size + 1, 0, none⟩ (.slice q5.sa q5.sn q5.sc)).setCell ⟨w.heap.size + 1, 1, none⟩ (.slice q5.ra q5.rn q5.rc)).setCell ⟨w.heap.size + 1, 2, none⟩ (.slice q5.wa q5.wn q5.tc)).setCell ⟨w.heap.size + 1, 3, none⟩ (.slice q5.va q5.vn q5.vc)).cell? ⟨w.heap.size + 2, 3, none⟩ = some (.slice none 0 0)) := ⟨aO (by omega) (aA B4.out s0), aO (by omega) (aA B4.out s1), aO (by omega) (aA B4.out s2), aO (by omega) (aA B4.out s3)⟩
      have RZ : Hid (∀ j, ((((w4.setCell ⟨w.heap.size + 1, 0, none⟩ (.slice q5.sa q5.sn q5.sc)).setCell ⟨w.heap.size + 1, 1, none⟩ (.slice q5.ra q5.rn q5.rc)).setCell ⟨w.heap.size + 1, 2, none⟩ (.slice q5.wa q5.wn q5.tc)).setCell ⟨w.heap.size + 1, 3, none⟩ (.slice q5.va q5.vn q5.vc)).frozen? ⟨w.heap.size + 2, j, none⟩ = false) := fun j => by
       have h := (B4.out.frozen (p := ⟨w.heap.size + 2, j, none⟩) (World.block_lt_of_cell? V ⟨w.heap.size + 2, 0, none⟩ s0)).trans (sf j)
       simpa using h
      have PF : Hid (((((w4.setCell ⟨w.heap.size + 1, 0, none⟩ (.slice q5.sa q5.sn q5.sc)).setCell ⟨w.heap.size + 1, 1, none⟩ (.slice q5.ra q5.rn q5.rc)).setCell ⟨w.heap.size + 1, 2, none⟩ (.slice q5.wa q5.wn q5.tc)).setCell ⟨w.heap.size + 1, 3, none⟩ (.slice q5.va q5.vn q5.vc)).cell? ⟨w.heap.size, 0, none⟩ = some (.int .i64 (sh : Int)) ∧ ((((w4.setCell ⟨w.heap.size + 1, 0, none⟩ (.slice q5.sa q5.sn q5.sc)).setCell ⟨w.heap.size + 1, 1, none⟩ (.slice q5.ra q5.rn q5.rc)).setCell ⟨w.heap.size + 1, 2, none⟩ (.slice q5.wa q5.wn q5.tc)).setCell ⟨w.heap.size + 1, 3, none⟩ (.slice q5.va q5.vn q5.vc)).cell? ⟨w.heap.size, 1, none⟩ = some (.slice la l.length lc)) := ⟨aO (by omega) (KS.out _ B4.out).1, aO (by omega) (KS.out _ B4.out).2.1⟩
      clear hHeld
      refine hK.out _ _ ((fun h => ⟨h.1, h.2.1⟩) (KS.out _ B4.out)) (fun hHeld => ?_)
      clear hK K
      refine wpAnyH_ready (rs := [8]) (by kernel_rfl) (by simp) ?_
      refine AllReadyH.cons (o := { dst := none, op := .store 29 (.tmp 3) (.tmp 18), type := 0, pos := "steps.go:197", after := #[{ on := 7, ground := .data }, { on := 7, ground := .chain }, { on := 0, ground := .phase }, { on := 1, ground := .phase }, { on := 2, ground := .phase }, { on := 3, ground := .phase }, { on := 4, ground := .phase }, { on := 5, ground := .phase }, { on := 6, ground := .phase }, { on := 7, ground := .phase }], guard := none }) rfl (fun K hK => ?_) (AllReadyH.nil)
      go_simp
      skip
      clear hHeld
      refine hK.out _ _ (PF.out) (fun hHeld => ?_)
      clear hK K
      refine wpAnyH_done (by kernel_rfl) ?_ _
      clear hHeld KS CN CD
      go_wp2
      go_roundw
      case rel => exact ⟨i + 1, q5, hlt, by go_num, YY, PFz, RS, RZ, HK5, BP⟩
      case measure => simp [intOf]; omega
end Go.Proofs.YtebjkmknhpgemaaGreat
