/-
  
  Conditions: those that each theorem states.
-/
import Derived.Test.YtcgpkonfneofdaaGreatSHallB
set_option maxRecDepth 100000
namespace Go.Proofs.YtcgpkonfneofdaaGreat
open Go.RowKit
theorem lk_mem {x : TxA} {z : Int} {b : Bool} (h : (z, b) ∈ lkX x) : ∃ c : Nat, c < 8 ∧ z = (c : Int) := by
 obtain ⟨k, hk, _, e⟩ := (lkX_mem x (z, b)).1 h
 injection e with e1 _
 exact ⟨k, hk, e1⟩
def lkClash (sh : Nat) (x y : TxA) (k : Nat) : Bool := (lkX x).any fun p => p.1.toNat % sh == k && (lkX y).any fun q => p.1 == q.1 && (p.2 || q.2)
theorem lkClash_eq (sh : Nat) (x y : TxA) (k : Nat) : lkClash sh x y k = clK sh x y k := by
 rw [Bool.eq_iff_iff, clK_iff]
 unfold lkClash
 simp only [List.any_eq_true, Bool.and_eq_true, beq_iff_eq]
 constructor
 ·rintro ⟨a, ha, hs, b, hb, he, hw⟩
  obtain ⟨c, hc, hh, rfl⟩ := (lkX_mem x a).1 ha
  obtain ⟨d, hd, hi, rfl⟩ := (lkX_mem y b).1 hb
  simp only at he hs hw
  have e : c = d := by omega
  subst e
  refine ⟨c, hc, by simpa using hs, ?_⟩
  rw [clashAt_has, hh, hi, hw]
  rfl
 ·rintro ⟨c, hc, hs, h⟩
  rw [clashAt_has, Bool.and_eq_true, Bool.and_eq_true] at h
  exact ⟨_, (lkX_mem x _).2 ⟨c, hc, h.1.1, rfl⟩, by simpa using hs, _, (lkX_mem y _).2 ⟨c, hc, h.1.2, rfl⟩, rfl, h.2⟩
variable {w : World} {h sh : Nat} {l : List TxA} {S : SA} {A : HA}
theorem inner_any (n : Nat) (z : Int) (t : Bool) (p : Nat) (a' : Option Addr) (c' : Nat) (hl : IsLks w a' (lkX (gX l n))) (q0 : w.cell? ⟨p, 0, none⟩ = some (.int .i64 z)) (q1 : w.cell? ⟨p, 1, none⟩ = some (.bool t)) :
  Calls Tryz.prog 142 #[.slice a' (lkX (gX l n)).length c', .func (.func 144) #[] #[.pointer (some ⟨p, 0, none⟩)]] w fun e w' => e = .returned (.bool ((lkX (gX l n)).any fun q => z == q.1 && (t || q.2))) ∧ Below w.heap.size w w' :=
 contains_in (lkX (gX l n)) a' c' 144 #[.pointer (some ⟨p, 0, none⟩)] (fun q => z == q.1 && (t || q.2)) w hl (by have := lk_len (gX l n); omega) (fun _ _ => rfl) (fun y b _ w' hb => cl162 y z b t p w' (ext_cell hb q0) (ext_cell hb q1))
set_option maxHeartbeats 4000000 in
theorem cl161 (H : Hall w h sh l S A) {n k : Nat} (hn : n < l.length) (_hk : k < sh) (c : Nat) (hc : c < 8) (t : Bool) (p q r : Nat) (p0 : w.cell? ⟨p, 0, none⟩ = some (.pointer (some ⟨h, 0, none⟩))) (q0 : w.cell? ⟨q, 0, none⟩ = some (.int .i64 k)) (r0 : w.cell? ⟨r, 0, none⟩ = some (.int .i64 n)) :
  Calls Tryz.prog 143 #[.agg #[.int .i64 (c : Int), .bool t], .pointer (some ⟨p, 0, none⟩), .pointer (some ⟨q, 0, none⟩), .pointer (some ⟨r, 0, none⟩)] w fun e w' => e = .returned (.bool (c % sh == k && (lkX (gX l n)).any fun q => (c : Int) == q.1 && (t || q.2))) ∧ Below w.heap.size w w' := by
 have hU : Hid (Below w.heap.size w (w.alloc (.cells #[.int .i64 (c : Int), .bool t] 149))) := grow_alloc (Below.refl _ _) _
 have e0 : (w.alloc (.cells #[.int .i64 (c : Int), .bool t] 149)).cell? ⟨w.heap.size, 0, none⟩ = some (.int .i64 (c : Int)) := by simp
 have e1 : (w.alloc (.cells #[.int .i64 (c : Int), .bool t] 149)).cell? ⟨w.heap.size, 1, none⟩ = some (.bool t) := by simp
 have p0 := ext_cell hU.out p0
 have q0 := ext_cell hU.out q0
 have r0 := ext_cell hU.out r0
 have HH : Hid (Hall (w.alloc (.cells #[.int .i64 (c : Int), .bool t] 149)) h sh l S A) := H.below hU.out
 have hl8 := H.l8
 clear H
 go_enter Tryz.func143, Tryz.ntmps143
 go_upto_region 1 with fail
 have HU : Hid (∀ w', Below (w.alloc (.cells #[.int .i64 (c : Int), .bool t] 149)).heap.size (w.alloc (.cells #[.int .i64 (c : Int), .bool t] 149)) w' → Below w.heap.size w w') := fun w' hb => grow_trans hU.out hb
 clear hU
 generalize w.alloc (.cells #[.int .i64 (c : Int), .bool t] 149) = W at *
 obtain ⟨b, off, a', c', ea, _, y1, hlk, _⟩ := HH.out.lk n hn
 have x7 : W.cell? ⟨h, 7, none⟩ = some (.slice (some ⟨b, off, none⟩) l.length A.kc) := by rw [← ea]; exact HH.out.h7
 have HK : Hid (IsLks W a' (lkX (gX l n))) := hlk
 have e1' : Hid (W.cell? ⟨w.heap.size, 1, none⟩ = some (.bool t)) := e1
 clear hlk ea e1
 have i1 : (0 : Int) ≤ (n : Int) := by omega
 have i2 : (n : Int) < (l.length : Int) := by omega
 have CL : Hid (∀ w', Below W.heap.size W w' → Calls Tryz.prog 116 #[.pointer (some ⟨h, 0, none⟩), .int .i64 c, .int .i64 k] w' fun e w'' => e = .returned (.bool (c % sh == k)) ∧ Below w'.heap.size w' w'') := fun w' hb => lies_any (HH.out.below hb) hc
 have CI : Hid (∀ w', Below W.heap.size W w' → Calls Tryz.prog 142 #[.slice a' (lkX (gX l n)).length c', .func (.func 144) #[] #[.pointer (some ⟨w.heap.size, 0, none⟩)]] w' fun e w'' => e = .returned (.bool ((lkX (gX l n)).any fun q => (c : Int) == q.1 && (t || q.2))) ∧ Below w'.heap.size w' w'') := fun w' hb => inner_any n c t w.heap.size a' c' (HK.out.below hb) (ext_cell hb e0) (ext_cell hb e1'.out)
 have KS : Hid (∀ w', Below W.heap.size W w' → w'.cell? ⟨p, 0, none⟩ = some (.pointer (some ⟨h, 0, none⟩)) ∧ w'.cell? ⟨q, 0, none⟩ = some (.int .i64 k) ∧ w'.cell? ⟨r, 0, none⟩ = some (.int .i64 n) ∧ w'.cell? ⟨w.heap.size, 0, none⟩ = some (.int .i64 (c : Int)) ∧ w'.cell? ⟨h, 7, none⟩ = some (.slice (some ⟨b, off, none⟩) l.length A.kc) ∧ w'.cell? ⟨b, off + n, none⟩ = some (.slice a' (lkX (gX l n)).length c') ∧ Hid (Below W.heap.size W w')) := fun w' hb => ⟨ext_cell hb p0, ext_cell hb q0, ext_cell hb r0, ext_cell hb e0, ext_cell hb x7, ext_cell hb y1, hb⟩
 clear HH HK e1'
 generalize hR : ((lkX (gX l n)).any fun q => (c : Int) == q.1 && (t || q.2)) = R at CI
 generalize (lkX (gX l n)).length = len at *
 generalize hV : (c % sh == k) = V at CL
 have HR : Hid (((lkX (gX l n)).any fun q => (c : Int) == q.1 && (t || q.2)) = R) := hR
 have HV : Hid ((c % sh == k) = V) := hV
 clear hR hV
 cases V
 ·refine wp_region_held_drew (S := (fun w' => w'.cell? ⟨p, 0, none⟩ = some (.pointer (some ⟨h, 0, none⟩)) ∧ w'.cell? ⟨q, 0, none⟩ = some (.int .i64 k) ∧ w'.cell? ⟨r, 0, none⟩ = some (.int .i64 n) ∧ w'.cell? ⟨w.heap.size, 0, none⟩ = some (.int .i64 (c : Int)) ∧ w'.cell? ⟨h, 7, none⟩ = some (.slice (some ⟨b, off, none⟩) l.length A.kc) ∧ w'.cell? ⟨b, off + n, none⟩ = some (.slice a' len c') ∧ Hid (Below W.heap.size W w'))) (by kernel_rfl) ?_ (fun hHeld => ?_)
  ·refine KS.out _ ?_
   exact grow_drew (Below.refl _ _)
  refine tk (i := 0) (oi := { dst := some 6, op := .load 85 (.tmp 1), type := 85, pos := "hall.go:150", after := #[], guard := none }) (v := ?_) rfl (by kernel_rfl) (by kernel_rfl) (by kernel_rfl) (fun _ _ _ h => h) (by rfl) (by assumption) ?_ ?_; rotate_left; focus (intro w hSw; go_simp; first | done | with_reducible rfl)
  try simp only [Act.put, List.setIfInBounds_toArray]
  refine tk (i := 1) (oi := { dst := some 7, op := .fieldAddr 149 (.tmp 4) 0, type := 0, pos := "hall.go:150", after := #[], guard := none }) (v := ?_) rfl (by kernel_rfl) (by kernel_rfl) (by kernel_rfl) (fun _ _ _ h => h) (by rfl) (by assumption) ?_ ?_; rotate_left; focus (intro w hSw; go_simp; first | done | with_reducible rfl)
  try simp only [Act.put, List.setIfInBounds_toArray]
  refine tk (i := 2) (oi := { dst := some 8, op := .load 3 (.tmp 7), type := 3, pos := "hall.go:150", after := #[{ on := 1, ground := .data }], guard := none }) (v := ?_) rfl (by kernel_rfl) (by kernel_rfl) (by kernel_rfl) (fun _ _ _ h => h) (by rfl) (by assumption) ?_ ?_; rotate_left; focus (intro w hSw; go_simp; first | done | with_reducible rfl)
  try simp only [Act.put, List.setIfInBounds_toArray]
  refine tk (i := 3) (oi := { dst := some 9, op := .load 3 (.tmp 2), type := 3, pos := "hall.go:150", after := #[], guard := none }) (v := ?_) rfl (by kernel_rfl) (by kernel_rfl) (by kernel_rfl) (fun _ _ _ h => h) (by rfl) (by assumption) ?_ ?_; rotate_left; focus (intro w hSw; go_simp; first | done | with_reducible rfl)
  try simp only [Act.put, List.setIfInBounds_toArray]
  refine wpAnyH_ready (rs := [4]) (by kernel_rfl) (by simp) ?_
  refine AllReadyH.cons (o := { dst := some 10, op := .call { callee := .value (.func 116), args := #[.tmp 6, .tmp 8, .tmp 9], argTypes := #[85, 3, 3] }, type := 4, pos := "hall.go:150", after := #[{ on := 0, ground := .data }, { on := 2, ground := .data }, { on := 3, ground := .data }], guard := none }) rfl (fun K hK => ?_) AllReadyH.nil
  go_simp
  go_wp2_with (go_at_call 116; refine (CL.out _ (grow_drew (Below.refl _ _))).mono ?_; rintro e w1 ⟨rfl, hb1⟩)
  have BW : Hid (Below W.heap.size W w1) := grow_trans (grow_drew (Below.refl _ _)) hb1
  clear hHeld
  refine hK.out _ _ (KS.out _ BW.out) (fun hHeld => ?_)
  clear hK K
  refine tk (i := 5) (oi := { dst := some 11, op := .move (.tmp 10), type := 4, pos := "hall.go:150", after := #[{ on := 4, ground := .data }, { on := 4, ground := .chain }], guard := none }) (v := ?_) rfl (by kernel_rfl) (by kernel_rfl) (by kernel_rfl) (fun _ _ _ h => h) (by rfl) (by assumption) ?_ ?_; rotate_left; focus (intro w hSw; go_simp; first | done | with_reducible rfl)
  try simp only [Act.put, List.setIfInBounds_toArray]
  refine wpAnyH_take (i := 6) (oi := { dst := some 12, op := .load 85 (.tmp 1), type := 85, pos := "hall.go:150", after := #[{ on := 5, ground := .guard }], guard := some (5, true) }) (v := undef) rfl (by kernel_rfl) (by kernel_rfl) (by kernel_rfl) (fun _ _ _ h => h) (Or.inr ⟨by rfl, rfl⟩) (by assumption) ?_
  try simp only [Act.put, List.setIfInBounds_toArray]
  refine wpAnyH_take (i := 7) (oi := { dst := some 13, op := .nilCheck (.tmp 12), type := 0, pos := "hall.go:150", after := #[{ on := 6, ground := .data }, { on := 5, ground := .guard }], guard := some (5, true) }) (v := undef) rfl (by kernel_rfl) (by kernel_rfl) (by kernel_rfl) (fun _ _ _ h => h) (Or.inr ⟨by rfl, rfl⟩) (by assumption) ?_
  try simp only [Act.put, List.setIfInBounds_toArray]
  refine wpAnyH_take (i := 8) (oi := { dst := some 14, op := .fieldAddr 90 (.tmp 13) 4, type := 0, pos := "hall.go:150", after := #[{ on := 7, ground := .data }, { on := 5, ground := .guard }], guard := some (5, true) }) (v := undef) rfl (by kernel_rfl) (by kernel_rfl) (by kernel_rfl) (fun _ _ _ h => h) (Or.inr ⟨by rfl, rfl⟩) (by assumption) ?_
  try simp only [Act.put, List.setIfInBounds_toArray]
  refine wpAnyH_take (i := 9) (oi := { dst := some 15, op := .load 88 (.tmp 14), type := 88, pos := "hall.go:150", after := #[{ on := 8, ground := .data }, { on := 5, ground := .guard }], guard := some (5, true) }) (v := undef) rfl (by kernel_rfl) (by kernel_rfl) (by kernel_rfl) (fun _ _ _ h => h) (Or.inr ⟨by rfl, rfl⟩) (by assumption) ?_
  try simp only [Act.put, List.setIfInBounds_toArray]
  refine wpAnyH_take (i := 10) (oi := { dst := some 16, op := .load 3 (.tmp 3), type := 3, pos := "hall.go:150", after := #[{ on := 5, ground := .guard }], guard := some (5, true) }) (v := undef) rfl (by kernel_rfl) (by kernel_rfl) (by kernel_rfl) (fun _ _ _ h => h) (Or.inr ⟨by rfl, rfl⟩) (by assumption) ?_
  try simp only [Act.put, List.setIfInBounds_toArray]
  refine wpAnyH_take (i := 11) (oi := { dst := some 17, op := .indexAddr 88 (.tmp 15) (.tmp 16), type := 0, pos := "hall.go:150", after := #[{ on := 9, ground := .data }, { on := 10, ground := .data }, { on := 5, ground := .guard }], guard := some (5, true) }) (v := undef) rfl (by kernel_rfl) (by kernel_rfl) (by kernel_rfl) (fun _ _ _ h => h) (Or.inr ⟨by rfl, rfl⟩) (by assumption) ?_
  try simp only [Act.put, List.setIfInBounds_toArray]
  refine wpAnyH_take (i := 12) (oi := { dst := some 18, op := .load 131 (.tmp 17), type := 131, pos := "hall.go:150", after := #[{ on := 11, ground := .data }, { on := 5, ground := .guard }], guard := some (5, true) }) (v := undef) rfl (by kernel_rfl) (by kernel_rfl) (by kernel_rfl) (fun _ _ _ h => h) (Or.inr ⟨by rfl, rfl⟩) (by assumption) ?_
  try simp only [Act.put, List.setIfInBounds_toArray]
  refine wpAnyH_take (i := 13) (oi := { dst := some 19, op := .makeFunc (.func 144) #[] #[.tmp 4], type := 180, pos := "hall.go:150", after := #[{ on := 5, ground := .guard }], guard := some (5, true) }) (v := undef) rfl (by kernel_rfl) (by kernel_rfl) (by kernel_rfl) (fun _ _ _ h => h) (Or.inr ⟨by rfl, rfl⟩) (by assumption) ?_
  try simp only [Act.put, List.setIfInBounds_toArray]
  refine wpAnyH_take (i := 14) (oi := { dst := some 20, op := .call { callee := .value (.func 142), args := #[.tmp 18, .tmp 19], argTypes := #[131, 180] }, type := 4, pos := "hall.go:150", after := #[{ on := 12, ground := .data }, { on := 13, ground := .data }, { on := 5, ground := .chain }, { on := 5, ground := .guard }], guard := some (5, true) }) (v := undef) rfl (by kernel_rfl) (by kernel_rfl) (by kernel_rfl) (fun _ _ _ h => h) (Or.inr ⟨by rfl, rfl⟩) (by assumption) ?_
  try simp only [Act.put, List.setIfInBounds_toArray]
  refine tk (i := 15) (oi := { dst := some 21, op := .pick (.tmp 11) (.tmp 20) (.const (.bool false)), type := 4, pos := "hall.go:150", after := #[{ on := 5, ground := .data }, { on := 14, ground := .data }], guard := none }) (v := ?_) rfl (by kernel_rfl) (by kernel_rfl) (by kernel_rfl) (fun _ _ _ h => h) (by rfl) (by assumption) ?_ ?_; rotate_left; focus (intro w hSw; go_simp; first | done | with_reducible rfl)
  try simp only [Act.put, List.setIfInBounds_toArray]
  refine tk (i := 16) (oi := { dst := some 5, op := .assign (.tmp 21), type := 4, pos := "hall.go:150", after := #[{ on := 15, ground := .data }, { on := 14, ground := .chain }, { on := 0, ground := .phase }, { on := 1, ground := .phase }, { on := 2, ground := .phase }, { on := 3, ground := .phase }, { on := 4, ground := .phase }, { on := 5, ground := .phase }, { on := 6, ground := .phase }, { on := 7, ground := .phase }, { on := 8, ground := .phase }, { on := 9, ground := .phase }, { on := 10, ground := .phase }, { on := 11, ground := .phase }, { on := 12, ground := .phase }, { on := 13, ground := .phase }, { on := 14, ground := .phase }, { on := 15, ground := .phase }], guard := none }) (v := ?_) rfl (by kernel_rfl) (by kernel_rfl) (by kernel_rfl) (fun _ _ _ h => h) (by rfl) (by assumption) ?_ ?_; rotate_left; focus (intro w hSw; go_simp; first | done | with_reducible rfl)
  try simp only [Act.put, List.setIfInBounds_toArray]
  refine wpAnyH_done (by kernel_rfl) ?_ _
  go_wp2
  go_ret
  exact ⟨by rw [HV.out, HR.out]; rfl, HU.out _ BW.out⟩
 ·go_region_held3 (fun w' => w'.cell? ⟨p, 0, none⟩ = some (.pointer (some ⟨h, 0, none⟩)) ∧ w'.cell? ⟨q, 0, none⟩ = some (.int .i64 k) ∧ w'.cell? ⟨r, 0, none⟩ = some (.int .i64 n) ∧ w'.cell? ⟨w.heap.size, 0, none⟩ = some (.int .i64 (c : Int)) ∧ w'.cell? ⟨h, 7, none⟩ = some (.slice (some ⟨b, off, none⟩) l.length A.kc) ∧ w'.cell? ⟨b, off + n, none⟩ = some (.slice a' len c') ∧ Hid (Below W.heap.size W w')) ((refine KS.out _ ?_; go_split_ands; repeat (first | assumption | exact Below.refl _ _ | exact Hid.out (by assumption) | refine grow_drew ?_ | refine grow_alloc ?_ _ | refine grow_trans ?_ (by assumption))))
   (first
    | (go_at_call 116; refine (CL.out _ ?_).mono ?_; (go_split_ands; repeat (first | assumption | exact Below.refl _ _ | exact Hid.out (by assumption) | refine grow_drew ?_ | refine grow_alloc ?_ _ | refine grow_trans ?_ (by assumption))); rintro e w' ⟨rfl, hbx⟩)
    | (go_at_call 142; refine (CI.out _ ?_).mono ?_; (go_split_ands; repeat (first | assumption | exact Below.refl _ _ | exact Hid.out (by assumption) | refine grow_drew ?_ | refine grow_alloc ?_ _ | refine grow_trans ?_ (by assumption))); rintro e w' ⟨rfl, hby⟩))
  all_goals (
   go_split_ands
   go_wp2
   go_ret
   refine ⟨by rw [HV.out, HR.out]; rfl, HU.out _ ?_⟩
   repeat (first | assumption | exact Below.refl _ _ | exact Hid.out (by assumption) | refine grow_drew ?_ | refine grow_alloc ?_ _ | refine grow_trans ?_ (by assumption)))
end Go.Proofs.YtcgpkonfneofdaaGreat
namespace Go.Proofs.YtcgpkonfneofdaaGreat
open Go.RowKit
variable {w : World} {h sh : Nat} {l : List TxA} {S : SA} {A : HA}
set_option maxHeartbeats 1000000 in
theorem clash_any (H : Hall w h sh l S A) {m n k : Nat} (hm : m < l.length) (hn : n < l.length) (hk : k < sh) :
  Calls Tryz.prog 141 #[.pointer (some ⟨h, 0, none⟩), .int .i64 m, .int .i64 n, .int .i64 k] w fun e w' => e = .returned (.bool (clK sh (gX l m) (gX l n) k)) ∧ Below w.heap.size w w' := by
 have e1 := grow_alloc (grow_alloc (grow_alloc (Below.refl w.heap.size w) (.cells #[.pointer (some ⟨h, 0, none⟩)] 85)) (.cells #[.int .i64 n] 3)) (.cells #[.int .i64 k] 3)
 have c0 : (((w.alloc (.cells #[.pointer (some ⟨h, 0, none⟩)] 85)).alloc (.cells #[.int .i64 n] 3)).alloc (.cells #[.int .i64 k] 3)).cell? ⟨w.heap.size, 0, none⟩ = some (.pointer (some ⟨h, 0, none⟩)) := ext_cell (grow_alloc (Below.refl _ _) _) (ext_cell (grow_alloc (Below.refl _ _) _) (at_new w _ 85 _ 0 _ rfl rfl))
 have c1 : (((w.alloc (.cells #[.pointer (some ⟨h, 0, none⟩)] 85)).alloc (.cells #[.int .i64 n] 3)).alloc (.cells #[.int .i64 k] 3)).cell? ⟨w.heap.size + 1, 0, none⟩ = some (.int .i64 n) := ext_cell (grow_alloc (Below.refl _ _) _) (at_new _ _ 3 _ 0 _ (by simp) rfl)
 have c2 : (((w.alloc (.cells #[.pointer (some ⟨h, 0, none⟩)] 85)).alloc (.cells #[.int .i64 n] 3)).alloc (.cells #[.int .i64 k] 3)).cell? ⟨w.heap.size + 2, 0, none⟩ = some (.int .i64 k) := at_new _ _ 3 _ 0 _ (by simp) rfl
 have HH := H.below e1
 obtain ⟨b, off, a', c', ea, _, y1, hlk, _⟩ := HH.lk m hm
 have x7 : (((w.alloc (.cells #[.pointer (some ⟨h, 0, none⟩)] 85)).alloc (.cells #[.int .i64 n] 3)).alloc (.cells #[.int .i64 k] 3)).cell? ⟨h, 7, none⟩ = some (.slice (some ⟨b, off, none⟩) l.length A.kc) := by rw [← ea]; exact HH.h7
 have CC : Hid (Calls Tryz.prog 142 #[.slice a' (lkX (gX l m)).length c', .func (.func 143) #[] #[.pointer (some ⟨w.heap.size, 0, none⟩), .pointer (some ⟨w.heap.size + 2, 0, none⟩), .pointer (some ⟨w.heap.size + 1, 0, none⟩)]] (((w.alloc (.cells #[.pointer (some ⟨h, 0, none⟩)] 85)).alloc (.cells #[.int .i64 n] 3)).alloc (.cells #[.int .i64 k] 3)) fun e w' => e = .returned (.bool (clK sh (gX l m) (gX l n) k)) ∧ Below (((w.alloc (.cells #[.pointer (some ⟨h, 0, none⟩)] 85)).alloc (.cells #[.int .i64 n] 3)).alloc (.cells #[.int .i64 k] 3)).heap.size (((w.alloc (.cells #[.pointer (some ⟨h, 0, none⟩)] 85)).alloc (.cells #[.int .i64 n] 3)).alloc (.cells #[.int .i64 k] 3)) w') := by
  have hh := contains_in (lkX (gX l m)) a' c' 143 #[.pointer (some ⟨w.heap.size, 0, none⟩), .pointer (some ⟨w.heap.size + 2, 0, none⟩), .pointer (some ⟨w.heap.size + 1, 0, none⟩)] (fun p => p.1.toNat % sh == k && (lkX (gX l n)).any fun q => p.1 == q.1 && (p.2 || q.2)) _ hlk (by have := lk_len (gX l m); omega) (fun _ _ => rfl) (fun z t hz w' hb => by
   obtain ⟨c, hc, rfl⟩ := lk_mem hz
   have := cl161 (HH.below hb) hn hk c hc t w.heap.size (w.heap.size + 2) (w.heap.size + 1) (ext_cell hb c0) (ext_cell hb c2) (ext_cell hb c1)
   exact this)
  rw [← lkClash_eq]
  exact hh
 have E1 : Hid (Below w.heap.size w (((w.alloc (.cells #[.pointer (some ⟨h, 0, none⟩)] 85)).alloc (.cells #[.int .i64 n] 3)).alloc (.cells #[.int .i64 k] 3))) := e1
 have i1 : (0 : Int) ≤ (m : Int) := by omega
 have i2 : (m : Int) < (l.length : Int) := by omega
 generalize clK sh (gX l m) (gX l n) k = R at *
 generalize (lkX (gX l m)).length = len at *
 clear HH H hlk e1 c1 c2 ea
 go_enter Tryz.func141, Tryz.ntmps141
 go_wp2_with fail
 refine CC.out.mono ?_
 clear CC
 rintro e w1 ⟨rfl, hb⟩
 have B1 : Hid (Below w.heap.size w w1) := grow_trans E1.out hb
 clear hb E1 c0 x7 y1
 go_wp2
 go_ret
 exact ⟨rfl, B1.out⟩
set_option maxHeartbeats 1000000 in
theorem blocked_any (H : Hall w h sh l S A) {n k : Nat} (hn : n < l.length) (hk : k < sh) :
  Calls Tryz.prog 128 #[.pointer (some ⟨h, 0, none⟩), .int .i64 n, .int .i64 k] w fun e w' => e = .returned (.bool (blkB sh l S n k)) ∧ Below w.heap.size w w' := by
 have HH : Hid (Hall w h sh l S A) := H
 have HS : Hid (∀ m, blkTo sh l S n k (m + 1) = (blkTo sh l S n k m || (!goneB sh l S m k && clK sh (gX l m) (gX l n) k))) := fun m => any_to _ m
 have HD : Hid (∀ m, m < n → (!goneB sh l S m k && clK sh (gX l m) (gX l n) k) = true → blkB sh l S n k = true) := fun m hm e => any_stop hm e
 have HF : Hid (blkB sh l S n k = blkTo sh l S n k n) := rfl
 have H0 : Hid (blkTo sh l S n k 0 = false) := rfl
 have hl8 := H.l8
 clear H
 generalize blkB sh l S n k = R at *
 generalize hbt : blkTo sh l S n k = bt at *
 clear hbt
 go_enter Tryz.func128, Tryz.ntmps128
 go_wp2
 go_loopw [7, 9] (fun _ i wr => ∃ m : Nat, m ≤ n ∧ i = .int .i64 m ∧ Hid (bt m = false) ∧ Hid (Below w.heap.size w wr)) (fun _ i _ => n - (intOf i).toNat)
 case atStart => exact ⟨0, Nat.zero_le _, rfl, H0, Below.refl _ _⟩
 case round =>
  obtain ⟨m, hm, rfl, hC, hB⟩ := hrel
  by_cases hlt : m < n
  ·have hml : m < l.length := by omega
   have HT : Hid (bt (m + 1) = (!goneB sh l S m k && clK sh (gX l m) (gX l n) k)) := by show _ = _; rw [HS.out, hC.out]; rfl
   have HDm : Hid ((!goneB sh l S m k && clK sh (gX l m) (gX l n) k) = true → R = true) := HD.out m hlt
   have CG : Hid (Calls Tryz.prog 44 #[.pointer (some ⟨h, 0, none⟩), .int .i64 m, .int .i64 k] wr fun e w' => e = .returned (.bool (goneB sh l S m k)) ∧ w' = wr) := gone_any (HH.out.below hB.out) hml hk
   have CC : Hid (Calls Tryz.prog 141 #[.pointer (some ⟨h, 0, none⟩), .int .i64 m, .int .i64 n, .int .i64 k] wr fun e w' => e = .returned (.bool (clK sh (gX l m) (gX l n) k)) ∧ Below wr.heap.size wr w') := clash_any (HH.out.below hB.out) hml hn hk
   generalize goneB sh l S m k = g at *
   generalize clK sh (gX l m) (gX l n) k = c at *
   clear HS HD HF hC HH
   have i1 : (m : Int) < (n : Int) := by omega
   cases g
   ·go_wp2_with fail
    refine CG.out.mono ?_
    rintro e w1 ⟨rfl, hw1⟩
    subst hw1
    clear CG
    go_wp2_with fail
    refine CC.out.mono ?_
    rintro e w1 ⟨rfl, hb1⟩
    have B1 : Hid (Below w.heap.size w w1) := grow_trans hB.out hb1
    clear CC hb1 hB
    cases c
    ·go_wp2
     go_roundw
     case rel => exact ⟨m + 1, by omega, by go_num, HT.out, B1⟩
     case measure => simp [intOf]; omega
    ·have HR : Hid (R = true) := HDm.out rfl
     clear HDm HT
     go_wp2
     go_ret
     exact ⟨by rw [HR.out]; rfl, B1.out⟩
   ·go_wp2_with fail
    refine CG.out.mono ?_
    rintro e w1 ⟨rfl, hw1⟩
    subst hw1
    clear CG CC
    go_wp2
    go_roundw
    case rel => exact ⟨m + 1, by omega, by go_num, HT.out, hB⟩
    case measure => simp [intOf]; omega
  ·have hmm : m = n := by omega
   have HR : Hid (R = false) := by
    have := hC.out
    rw [hmm] at this
    exact HF.out.trans this
   have i1 : ¬ (m : Int) < (n : Int) := by omega
   clear HS HD HF hC HH
   go_wp2
   go_ret
   exact ⟨by rw [HR.out]; rfl, hB.out⟩
end Go.Proofs.YtcgpkonfneofdaaGreat
