/-
  
  Conditions: those that each theorem states.
-/
import Derived.Test.YtcgpkonfneofdaaGreatSHallH
import Derived.Test.YtcgpkonfneofdaaGreatSHallE
namespace Go.Proofs.YtcgpkonfneofdaaGreat
open Go.RowKit
structure Hall0 (w : World) (h p sh : Nat) (l : List TxA) (S : SA) (la sa ra wa va : Option Addr) (lc sc rc wc vc : Nat) : Prop where
 h0 : w.cell? ⟨h, 0, none⟩ = some (.pointer (some ⟨p, 0, none⟩))
 h1 : w.cell? ⟨h, 1, none⟩ = some (.slice sa S.st.length sc)
 h2 : w.cell? ⟨h, 2, none⟩ = some (.slice ra S.rd.length rc)
 h3 : w.cell? ⟨h, 3, none⟩ = some (.slice wa S.wr.length wc)
 h4 : w.cell? ⟨h, 4, none⟩ = some (.slice va S.vs.length vc)
 p0 : w.cell? ⟨p, 0, none⟩ = some (.int .i64 sh)
 p1 : w.cell? ⟨p, 1, none⟩ = some (.slice la l.length lc)
 tx : IsTxs w la l
 sta : Sta w sa ra wa va S
 l8 : l.length ≤ 8
 s4 : sh ≤ 4
def row1 (sh : Nat) (l : List TxA) (S : SA) (n : Nat) : Prop := (S.rd.getD n []).length = sh ∧ (S.wr.getD n []).length = sh ∧ (S.vs.getD n []).length = (gX l n).rs.length
theorem form_bad {sh : Nat} {l : List TxA} {S : SA} (h : ¬ Form sh l S) : formB sh l S = false := by
 cases e : formB sh l S with
 | false => rfl
 | true => exact absurd (formB_iff.1 e) h
variable {w : World} {h p sh : Nat} {l : List TxA} {S : SA} {la sa ra wa va : Option Addr} {lc sc rc wc vc : Nat}
set_option maxRecDepth 100000 in
set_option maxHeartbeats 4000000 in
theorem formError_any (H : Hall0 w h p sh l S la sa ra wa va lc sc rc wc vc) (h8 : S.st.length = 8) :
  Calls Tryz.prog 68 #[.pointer (some ⟨h, 0, none⟩)] w fun e w' => e = .returned (.int .i64 (if formB sh l S then 0 else 1)) ∧ Below w.heap.size w w' := by
 have HE1 : Hid (Form sh l S → (if formB sh l S then (0 : Int) else 1) = 0) := fun e => by rw [formB_iff.2 e]; rfl
 have HE0 : Hid (¬ Form sh l S → (if formB sh l S then (0 : Int) else 1) = 1) := fun e => by rw [form_bad e]; rfl
 generalize (if formB sh l S then (0 : Int) else 1) = E at *
 have HH : Hid (Hall0 w h p sh l S la sa ra wa va lc sc rc wc vc) := H
 have H8 : Hid (S.st.length = 8) := h8
 have x0 := H.h0
 have x2 := H.h2
 have x3 := H.h3
 have x4 := H.h4
 have p0 := H.p0
 have p1 := H.p1
 have hl8 := H.l8
 have hs4 := H.s4
 clear H h8
 by_cases e1 : S.rd.length = l.length
 rotate_left
 ·have HF : Hid (E = 1) := HE0.out fun F => e1 F.rd
  have d1 : ((S.rd.length : Int) != (l.length : Int)) = true := by rw [bne_iff_ne]; omega
  clear HE0 HE1 HH H8
  go_enter Tryz.func68, Tryz.ntmps68
  go_wp2
  go_ret
  exact ⟨by rw [HF.out]; rfl, Below.refl _ _⟩
 by_cases e2 : S.wr.length = l.length
 rotate_left
 ·have HF : Hid (E = 1) := HE0.out fun F => e2 F.wr
  have d1 : ((S.rd.length : Int) != (l.length : Int)) = false := by rw [bne_eq_false_iff_eq]; omega
  have d2 : ((S.wr.length : Int) != (l.length : Int)) = true := by rw [bne_iff_ne]; omega
  clear HE0 HE1 HH H8 e1
  go_enter Tryz.func68, Tryz.ntmps68
  go_wp2
  go_ret
  exact ⟨by rw [HF.out]; rfl, Below.refl _ _⟩
 by_cases e3 : S.vs.length = l.length
 rotate_left
 ·have HF : Hid (E = 1) := HE0.out fun F => e3 F.vs
  have d1 : ((S.rd.length : Int) != (l.length : Int)) = false := by rw [bne_eq_false_iff_eq]; omega
  have d2 : ((S.wr.length : Int) != (l.length : Int)) = false := by rw [bne_eq_false_iff_eq]; omega
  have d3 : ((S.vs.length : Int) != (l.length : Int)) = true := by rw [bne_iff_ne]; omega
  clear HE0 HE1 HH H8 e1 e2
  go_enter Tryz.func68, Tryz.ntmps68
  go_wp2
  go_ret
  exact ⟨by rw [HF.out]; rfl, Below.refl _ _⟩
 rw [e1] at x2
 rw [e2] at x3
 rw [e3] at x4
 have Q1 : Hid (S.rd.length = l.length) := e1
 have Q2 : Hid (S.wr.length = l.length) := e2
 have Q3 : Hid (S.vs.length = l.length) := e3
 clear e1 e2 e3
 have d1 : ((l.length : Int) != (l.length : Int)) = false := by simp
 go_enter Tryz.func68, Tryz.ntmps68
 go_wp2
 go_loopw [50] (fun i wr => ∃ n : Nat, n ≤ l.length ∧ i = .int .i64 n ∧ Hid (∀ i, i < n → row1 sh l S i) ∧ Hid (Below w.heap.size w wr)) (fun i _ => l.length - (intOf i).toNat)
 case atStart => exact ⟨0, Nat.zero_le _, rfl, (fun i hi => absurd hi (Nat.not_lt_zero _)), Below.refl _ _⟩
 case round =>
  obtain ⟨n, hn', rfl, hall, hB⟩ := hrel
  by_cases hlt : n < l.length
  ·have i1 : (n : Int) < (l.length : Int) := by omega
   have i0 : (0 : Int) ≤ (n : Int) := by omega
   obtain ⟨bt, ot, ea, _, t0, t1, t2, _⟩ := HH.out.tx n hlt
   obtain ⟨b1, o1, a1, c1, f1, _, y1, _, _⟩ := HH.out.sta.rd n (by rw [Q1.out]; exact hlt)
   obtain ⟨b2, o2, a2, c2, f2, _, y2, _, _⟩ := HH.out.sta.wr n (by rw [Q2.out]; exact hlt)
   obtain ⟨b3, o3, a3, c3, f3, _, y3, _, _⟩ := HH.out.sta.vs n (by rw [Q3.out]; exact hlt)
   have z0 := ext_cell hB.out x0
   have z2 : wr.cell? ⟨h, 2, none⟩ = some (.slice (some ⟨b1, o1, none⟩) l.length rc) := by rw [← f1]; exact ext_cell hB.out x2
   have z3 : wr.cell? ⟨h, 3, none⟩ = some (.slice (some ⟨b2, o2, none⟩) l.length wc) := by rw [← f2]; exact ext_cell hB.out x3
   have z4 : wr.cell? ⟨h, 4, none⟩ = some (.slice (some ⟨b3, o3, none⟩) l.length vc) := by rw [← f3]; exact ext_cell hB.out x4
   have zp0 := ext_cell hB.out p0
   have zt0 := ext_cell hB.out t0
   have zt1 := ext_cell hB.out t1
   have zt2 := ext_cell hB.out t2
   have zy1 := ext_cell hB.out y1
   have zy2 := ext_cell hB.out y2
   have zy3 := ext_cell hB.out y3
   subst ea
   have HG : Hid ((S.rd.getD n []).length = sh → (S.wr.getD n []).length = sh → (S.vs.getD n []).length = (l.getD n Go.Proofs.YtcgpkonfneofdaaGreat.x0).rs.length → ∀ i, i < n + 1 → row1 sh l S i) := fun q1 q2 q3 i hi => by
    by_cases e : i = n
    ·subst e; exact ⟨q1, q2, q3⟩
    ·exact hall.out i (by omega)
   have HB : Hid (¬ ((S.rd.getD n []).length = sh ∧ (S.wr.getD n []).length = sh ∧ (S.vs.getD n []).length = (l.getD n Go.Proofs.YtcgpkonfneofdaaGreat.x0).rs.length) → ¬ Form sh l S) := fun q F => q ⟨F.rn n hlt, F.wn n hlt, F.vn n hlt⟩
   clear hall t0 t1 t2 y1 y2 y3
   generalize (S.rd.getD n []).length = L1 at *
   generalize (S.wr.getD n []).length = L2 at *
   generalize (S.vs.getD n []).length = L3 at *
   generalize l.getD n Go.Proofs.YtcgpkonfneofdaaGreat.x0 = x at *
   obtain ⟨xa, xb, xc, xd, xe, xf, rs, gs, ss⟩ := x
   simp only at zt0 zt1 zt2 HG HB
   have UV : Hid (Below w.heap.size w (wr.alloc (.cells #[.slice xa rs.length xd, .slice xb gs.length xe, .slice xc ss.length xf] 61))) := grow_alloc hB.out _
   have bV : Below wr.heap.size wr (wr.alloc (.cells #[.slice xa rs.length xd, .slice xb gs.length xe, .slice xc ss.length xf] 61)) := grow_alloc (Below.refl _ _) _
   go_upto_region 7 with fail
   have z0 := ext_cell bV z0
   have z2 := ext_cell bV z2
   have z3 := ext_cell bV z3
   have z4 := ext_cell bV z4
   have zp0 := ext_cell bV zp0
   have zy1 := ext_cell bV zy1
   have zy2 := ext_cell bV zy2
   have zy3 := ext_cell bV zy3
   have zx : (wr.alloc (.cells #[.slice xa rs.length xd, .slice xb gs.length xe, .slice xc ss.length xf] 61)).cell? ⟨wr.heap.size, 0, none⟩ = some (.slice xa rs.length xd) := by simp
   clear bV zt0 zt1 zt2 hB
   generalize (wr.alloc (.cells #[.slice xa rs.length xd, .slice xb gs.length xe, .slice xc ss.length xf] 61)) = V at *
   by_cases q1 : L1 = sh
   rotate_left
   ·have HF : Hid (E = 1) := HE0.out (HB.out fun q => q1 q.1)
    have g1 : ((L1 : Int) != (sh : Int)) = true := by rw [bne_iff_ne]; omega
    clear HE0 HE1 HB HG
    go_quiet (fail)
    go_wp2
    go_ret
    exact ⟨by rw [HF.out]; rfl, drewN_grow UV.out _⟩
   have g1 : ((L1 : Int) != (sh : Int)) = false := by rw [bne_eq_false_iff_eq]; omega
   by_cases q2 : L2 = sh
   rotate_left
   ·have HF : Hid (E = 1) := HE0.out (HB.out fun q => q2 q.2.1)
    have g2 : ((L2 : Int) != (sh : Int)) = true := by rw [bne_iff_ne]; omega
    clear HE0 HE1 HB HG q1
    go_quiet (fail)
    go_wp2
    go_ret
    exact ⟨by rw [HF.out]; rfl, drewN_grow UV.out _⟩
   have g2 : ((L2 : Int) != (sh : Int)) = false := by rw [bne_eq_false_iff_eq]; omega
   by_cases q3 : L3 = rs.length
   rotate_left
   ·have HF : Hid (E = 1) := HE0.out (HB.out fun q => q3 q.2.2)
    have g3 : ((L3 : Int) != (rs.length : Int)) = true := by rw [bne_iff_ne]; omega
    clear HE0 HE1 HB HG q1 q2
    go_quiet (fail)
    go_wp2
    go_ret
    exact ⟨by rw [HF.out]; rfl, drewN_grow UV.out _⟩
   have g3 : ((L3 : Int) != (rs.length : Int)) = false := by rw [bne_eq_false_iff_eq]; omega
   have HR : Hid (∀ i, i < n + 1 → row1 sh l S i) := HG.out q1 q2 q3
   clear HB HG q1 q2 q3
   go_quiet (fail)
   have UQ : Hid (Below w.heap.size w (V.drewN nq)) := drewN_grow UV.out _
   clear UV z0 z2 z3 z4 zp0 zy1 zy2 zy3 zx
   go_wp2
   go_roundw
   case rel => exact ⟨n + 1, by omega, by go_num, HR, UQ⟩
   case measure => simp [intOf]; omega
  ·have hnn : n = l.length := by omega
   have HF : Hid (E = 0) := HE1.out (by
    have := hall.out
    rw [hnn] at this
    exact ⟨H8.out, Q1.out, Q2.out, Q3.out, fun i hi => (this i hi).1, fun i hi => (this i hi).2.1, fun i hi => (this i hi).2.2⟩)
   have i1 : ¬ (n : Int) < (l.length : Int) := by omega
   clear hall
   go_wp2
   go_ret
   exact ⟨by rw [HF.out]; rfl, hB.out⟩
end Go.Proofs.YtcgpkonfneofdaaGreat
