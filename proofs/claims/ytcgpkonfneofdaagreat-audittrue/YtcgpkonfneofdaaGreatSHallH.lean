/-
  
  Conditions: those that each theorem states.
-/
import Derived.Test.YtcgpkonfneofdaaGreatSHallB
namespace Go.Proofs.YtcgpkonfneofdaaGreat
open Go.RowKit
def tr1 (sh : Nat) (l : List TxA) (S : SA) (n k : Nat) : Bool := (!at2 S.rd n k || ptB sh (gX l n) k) && (!at2 S.wr n k || (acB sh (gX l n) k && allRd sh l S n))
theorem truthB_tr {sh : Nat} {l : List TxA} {S : SA} : truthB sh l S = (List.range l.length).all fun n => (List.range sh).all (tr1 sh l S n) := rfl
theorem truth_stop {sh : Nat} {l : List TxA} {S : SA} {n k : Nat} (hn : n < l.length) (hk : k < sh) (h : tr1 sh l S n k = false) : truthB sh l S = false := by
 rw [truthB_tr]
 exact all_stop hn (all_stop hk h)
def IsBB (w : World) (a : Option Addr) (rows : List (List Bool)) : Prop :=
 ∀ i, i < rows.length → ∃ b off a' c', a = some ⟨b, off, none⟩ ∧ b < w.heap.size ∧ w.cell? ⟨b, off + i, none⟩ = some (.slice a' (rows.getD i []).length c') ∧ IsBools w a' (rows.getD i []) ∧ (a' = none → c' = 0)
def IsII (w : World) (a : Option Addr) (rows : List (List Int)) : Prop :=
 ∀ i, i < rows.length → ∃ b off a' c', a = some ⟨b, off, none⟩ ∧ b < w.heap.size ∧ w.cell? ⟨b, off + i, none⟩ = some (.slice a' (rows.getD i []).length c') ∧ IsInts w a' (rows.getD i []) ∧ (a' = none → c' = 0)
theorem IsBB.below {w w' : World} {a : Option Addr} {rows : List (List Bool)} (h : IsBB w a rows) (hb : Below w.heap.size w w') : IsBB w' a rows := fun i hi => by
 obtain ⟨b, off, a', c', e, h1, h2, h3, h4⟩ := h i hi
 exact ⟨b, off, a', c', e, Nat.lt_of_lt_of_le h1 hb.size, ext_cell hb h2, h3.below hb, h4⟩
theorem IsII.below {w w' : World} {a : Option Addr} {rows : List (List Int)} (h : IsII w a rows) (hb : Below w.heap.size w w') : IsII w' a rows := fun i hi => by
 obtain ⟨b, off, a', c', e, h1, h2, h3, h4⟩ := h i hi
 exact ⟨b, off, a', c', e, Nat.lt_of_lt_of_le h1 hb.size, ext_cell hb h2, h3.below hb, h4⟩
structure Sta (w : World) (sa ra wa va : Option Addr) (S : SA) : Prop where
 st : IsInts w sa S.st
 rd : IsBB w ra S.rd
 wr : IsBB w wa S.wr
 vs : IsII w va S.vs
theorem Sta.below {w w' : World} {sa ra wa va : Option Addr} {S : SA} (h : Sta w sa ra wa va S) (hb : Below w.heap.size w w') : Sta w' sa ra wa va S := ⟨h.st.below hb, h.rd.below hb, h.wr.below hb, h.vs.below hb⟩
theorem IsBB.rows {w : World} {a : Option Addr} {rows : List (List Bool)} (h : IsBB w a rows) {n sh : Nat} (hn : rows.length = n) (hs : ∀ i, i < n → (rows.getD i []).length = sh) (h0 : 0 < sh) : IsBR 0 w a n sh (at2 rows) := fun i hi => by
 obtain ⟨b, off, a', c', e, h1, h2, h3, _⟩ := h i (by omega)
 have hl := hs i hi
 obtain ⟨b', off', ea, hb', _⟩ := h3 0 (by omega)
 subst ea
 refine ⟨b, off, b', off', c', e, ⟨Nat.zero_le _, h1⟩, ⟨Nat.zero_le _, hb'⟩, by rw [h2, hl], fun k hk => ?_⟩
 obtain ⟨b2, off2, e2, _, hc⟩ := h3 k (by omega)
 injection e2 with e2
 injection e2 with q1 q2 _
 subst q1 q2
 exact hc
theorem IsII.rows {w : World} {a : Option Addr} {V : List (List Int)} (h : IsII w a V) {l : List TxA} (hn : V.length = l.length) (hs : ∀ i, i < l.length → (V.getD i []).length = (gX l i).rs.length) : IsIR 0 w a l V := fun i hi => by
 obtain ⟨b, off, a', c', e, h1, h2, h3, h4⟩ := h i (by omega)
 have hl := hs i hi
 exact ⟨b, off, a', c', e, ⟨Nat.zero_le _, h1⟩, by rw [h2, hl], hl, h3, fun _ _ => Nat.zero_le _, h4⟩
variable {w : World} {h sh : Nat} {l : List TxA} {S : SA} {A : HA}
set_option maxRecDepth 100000 in
set_option maxHeartbeats 2000000 in
theorem truthError_any (H : Hall w h sh l S A) :
    Calls Tryz.prog 74 #[.pointer (some ⟨h, 0, none⟩)] w fun e w' => e = .returned (.int .i64 (if truthB sh l S then 0 else 1)) ∧ w' = w := by
  have HH : Hid (Hall w h sh l S A) := H
  have x0 := H.h0
  have p0 := H.p0
  have p1 := H.p1
  have hl8 := H.l8
  have hs4 := H.s4
  have HE1 : Hid (truthB sh l S = true → (if truthB sh l S then (0 : Int) else 1) = 0) := fun e => by rw [e]; rfl
  have HE0 : Hid (truthB sh l S = false → (if truthB sh l S then (0 : Int) else 1) = 1) := fun e => by rw [e]; rfl
  clear H
  generalize (if truthB sh l S then (0 : Int) else 1) = E at *
  go_enter Tryz.func74, Tryz.ntmps74
  go_wp2
  go_loop [3, 4, 13] (fun _ _ i => ∃ n : Nat, n ≤ l.length ∧ i = .int .i64 n ∧ Hid ((List.range n).all (fun n => (List.range sh).all (tr1 sh l S n)) = true)) (fun _ _ i => l.length - (intOf i).toNat)
  case atStart => exact ⟨0, Nat.zero_le _, rfl, rfl⟩
  case round =>
    obtain ⟨n, hn', rfl, hall⟩ := hrel
    by_cases hlt : n < l.length
    · have i1 : (n : Int) < (l.length : Int) := by omega
      have i0 : (0 : Int) ≤ (n : Int) := by omega
      have HN : Hid ((List.range sh).all (tr1 sh l S n) = true → (List.range (n + 1)).all (fun n => (List.range sh).all (tr1 sh l S n)) = true) := fun e => by rw [all_to, hall.out, e]; rfl
      clear hall
      obtain ⟨b1, o1, b1', o1', k1, x1, y1, z1⟩ := br_row HH.out.h2 HH.out.rd hlt
      obtain ⟨b2, o2, b2', o2', k2, x2, y2, z2⟩ := br_row HH.out.h3 HH.out.wr hlt
      obtain ⟨b3, o3, b3', o3', k3, x3, y3, z3⟩ := br_row HH.out.h5 HH.out.pt hlt
      obtain ⟨b4, o4, b4', o4', k4, x4, y4, z4⟩ := br_row HH.out.h6 HH.out.ac hlt
      have Z1 : Hid (∀ k, k < sh → w.cell? ⟨b1', o1' + k, none⟩ = some (.bool (at2 S.rd n k))) := z1
      have Z2 : Hid (∀ k, k < sh → w.cell? ⟨b2', o2' + k, none⟩ = some (.bool (at2 S.wr n k))) := z2
      have Z3 : Hid (∀ k, k < sh → w.cell? ⟨b3', o3' + k, none⟩ = some (.bool (ptB sh (gX l n) k))) := z3
      have Z4 : Hid (∀ k, k < sh → w.cell? ⟨b4', o4' + k, none⟩ = some (.bool (acB sh (gX l n) k))) := z4
      have CR : Hid (Calls Tryz.prog 100 #[.pointer (some ⟨h, 0, none⟩), .int .i64 n] w fun e w' => e = .returned (.bool (allRd sh l S n)) ∧ w' = w) := readAll_any HH.out hlt
      clear z1 z2 z3 z4
      go_wp2
      go_loop [4, 23] (fun _ i => ∃ k : Nat, k ≤ sh ∧ i = .int .i64 k ∧ Hid ((List.range k).all (tr1 sh l S n) = true)) (fun _ i => sh - (intOf i).toNat)
      case atStart => exact ⟨0, Nat.zero_le _, rfl, rfl⟩
      case round =>
        obtain ⟨k, hk', rfl, hall⟩ := hrel
        by_cases hlt2 : k < sh
        · have j1 : (k : Int) < (sh : Int) := by omega
          have j0 : (0 : Int) ≤ (k : Int) := by omega
          have d1 := Z1.out k hlt2
          have d2 := Z2.out k hlt2
          have d3 := Z3.out k hlt2
          have d4 := Z4.out k hlt2
          have HT : Hid (tr1 sh l S n k = ((!at2 S.rd n k || ptB sh (gX l n) k) && (!at2 S.wr n k || (acB sh (gX l n) k && allRd sh l S n)))) := rfl
          have HG : Hid (tr1 sh l S n k = true → (List.range (k + 1)).all (tr1 sh l S n) = true) := fun e => by rw [all_to, hall.out, e]; rfl
          have HB : Hid (tr1 sh l S n k = false → truthB sh l S = false) := fun e => truth_stop hlt hlt2 e
          clear hall
          generalize tr1 sh l S n k = T at *
          generalize at2 S.rd n k = r at *
          generalize at2 S.wr n k = t at *
          generalize ptB sh (gX l n) k = P at *
          generalize acB sh (gX l n) k = Q at *
          generalize allRd sh l S n = R at *
          rcases r with _ | _ <;> rcases P with _ | _ <;> rcases t with _ | _ <;> try rcases Q with _ | _
          all_goals first
            | (have HF : Hid (truthB sh l S = false) := HB.out HT.out
               clear HT HG HB CR HN
               go_wp2
               go_ret
               exact ⟨by rw [HE0.out HF.out]; rfl, rfl⟩)
            | (have HF : Hid ((List.range (k + 1)).all (tr1 sh l S n) = true) := HG.out HT.out
               clear HT HG HB CR HN
               go_wp2
               go_round
               case rel => exact ⟨k + 1, by omega, by go_num, HF⟩
               case measure => simp [intOf]; omega)
            | (go_wp2_with fail
               refine CR.out.mono ?_
               rintro e w1 ⟨rfl, hw1⟩
               subst hw1
               clear CR
               cases R
               · have HF : Hid (truthB sh l S = false) := HB.out HT.out
                 clear HT HG HB HN
                 go_wp2
                 go_ret
                 exact ⟨by rw [HE0.out HF.out]; rfl, rfl⟩
               · have HF : Hid ((List.range (k + 1)).all (tr1 sh l S n) = true) := HG.out HT.out
                 clear HT HG HB HN
                 go_wp2
                 go_round
                 case rel => exact ⟨k + 1, by omega, by go_num, HF⟩
                 case measure => simp [intOf]; omega)
        · have hkk : k = sh := by omega
          have HF : Hid ((List.range (n + 1)).all (fun n => (List.range sh).all (tr1 sh l S n)) = true) := HN.out (by have := hall.out; rw [hkk] at this; exact this)
          have j1 : ¬ (k : Int) < (sh : Int) := by omega
          clear hall HN CR
          go_wp2
          go_round
          case rel => exact ⟨n + 1, by omega, by go_num, HF⟩
          case measure => simp [intOf]; omega
    · have hnn : n = l.length := by omega
      have HF : Hid (truthB sh l S = true) := by
        have := hall.out
        rw [hnn] at this
        exact this
      have i1 : ¬ (n : Int) < (l.length : Int) := by omega
      clear hall
      go_wp2
      go_ret
      exact ⟨by rw [HE1.out HF.out]; rfl, rfl⟩
end Go.Proofs.YtcgpkonfneofdaaGreat
