/-
  
  Conditions: those that each theorem states.
-/
import Derived.Test.YtebjkmknhpgemaaGreatUHallB
set_option maxRecDepth 100000
namespace Go.Proofs.YtebjkmknhpgemaaGreat
open Go.RowKit
theorem lk_mem {x : TxA} {z : Int} {b : Bool} (h : (z, b) ∈ iH x) : ∃ c : Nat, c < 8 ∧ z = (c : Int) := by
 obtain ⟨k, hk, _, e⟩ := (fN x (z, b)).1 h
 injection e with e1 _
 exact ⟨k, hk, e1⟩
def lkClash (sh : Nat) (x y : TxA) (k : Nat) : Bool := (iH x).any fun p => p.1.toNat % sh == k && (iH y).any fun q => p.1 == q.1 && (p.2 || q.2)
theorem lkClash_eq (sh : Nat) (x y : TxA) (k : Nat) : lkClash sh x y k = lU sh x y k := by
 rw [Bool.eq_iff_iff, clK_iff]
 unfold lkClash
 simp only [List.any_eq_true, Bool.and_eq_true, beq_iff_eq]
 constructor
 ·rintro ⟨a, ha, hs, b, hb, he, hw⟩
  obtain ⟨c, hc, hh, rfl⟩ := (fN x a).1 ha
  obtain ⟨d, hd, hi, rfl⟩ := (fN y b).1 hb
  simp only at he hs hw
  have e : c = d := by omega
  subst e
  refine ⟨c, hc, by simpa using hs, ?_⟩
  rw [fU, hh, hi, hw]
  rfl
 ·rintro ⟨c, hc, hs, h⟩
  rw [fU, Bool.and_eq_true, Bool.and_eq_true] at h
  exact ⟨_, (fN x _).2 ⟨c, hc, h.1.1, rfl⟩, by simpa using hs, _, (fN y _).2 ⟨c, hc, h.1.2, rfl⟩, rfl, h.2⟩
variable {w : World} {h sh : Nat} {l : List TxA} {S : SA} {A : HA}
theorem inner_any (n : Nat) (z : Int) (t : Bool) (p : Nat) (a' : Option Addr) (c' : Nat) (hl : IsLks w a' (iH (gX l n))) (q0 : w.cell? ⟨p, 0, none⟩ = some (.int .i64 z)) (q1 : w.cell? ⟨p, 1, none⟩ = some (.bool t)) :
  Calls Tryz.prog 160 #[.slice a' (iH (gX l n)).length c', .func (.func 162) #[] #[.pointer (some ⟨p, 0, none⟩)]] w fun e w' => e = .returned (.bool ((iH (gX l n)).any fun q => z == q.1 && (t || q.2))) ∧ Below w.heap.size w w' :=
 nC (iH (gX l n)) a' c' 162 #[.pointer (some ⟨p, 0, none⟩)] (fun q => z == q.1 && (t || q.2)) w hl (by have := lk_len (gX l n); omega) (fun _ _ => rfl) (fun y b _ w' hb => cl162 y z b t p w' (aA hb q0) (aA hb q1))
set_option maxHeartbeats 4000000 in
theorem cl161 (H : Hall w h sh l S A) {n k : Nat} (hn : n < l.length) (_hk : k < sh) (c : Nat) (hc : c < 8) (t : Bool) (p q r : Nat) (p0 : w.cell? ⟨p, 0, none⟩ = some (.pointer (some ⟨h, 0, none⟩))) (q0 : w.cell? ⟨q, 0, none⟩ = some (.int .i64 k)) (r0 : w.cell? ⟨r, 0, none⟩ = some (.int .i64 n)) :
  Calls Tryz.prog 161 #[.agg #[.int .i64 (c : Int), .bool t], .pointer (some ⟨p, 0, none⟩), .pointer (some ⟨q, 0, none⟩), .pointer (some ⟨r, 0, none⟩)] w fun e w' => e = .returned (.bool (c % sh == k && (iH (gX l n)).any fun q => (c : Int) == q.1 && (t || q.2))) ∧ Below w.heap.size w w' := by
 have hU : Hid (Below w.heap.size w (w.alloc (.cells #[.int .i64 (c : Int), .bool t] 134))) := aB (Below.refl _ _) _
 have e0 : (w.alloc (.cells #[.int .i64 (c : Int), .bool t] 134)).cell? ⟨w.heap.size, 0, none⟩ = some (.int .i64 (c : Int)) := by simp
 have e1 : (w.alloc (.cells #[.int .i64 (c : Int), .bool t] 134)).cell? ⟨w.heap.size, 1, none⟩ = some (.bool t) := by simp
 have p0 := aA hU.out p0
 have q0 := aA hU.out q0
 have r0 := aA hU.out r0
 have HH : Hid (Hall (w.alloc (.cells #[.int .i64 (c : Int), .bool t] 134)) h sh l S A) := H.below hU.out
 have hl8 := H.l8
 clear H
 go_enter Tryz.func161, Tryz.ntmps161
 go_upto_region 1 with fail
 have HU : Hid (∀ w', Below (w.alloc (.cells #[.int .i64 (c : Int), .bool t] 134)).heap.size (w.alloc (.cells #[.int .i64 (c : Int), .bool t] 134)) w' → Below w.heap.size w w') := fun w' hb => aC hU.out hb
 clear hU
 generalize w.alloc (.cells #[.int .i64 (c : Int), .bool t] 134) = W at *
 obtain ⟨b, off, a', c', ea, _, y1, hlk, _⟩ := HH.out.lk n hn
 have x7 : W.cell? ⟨h, 7, none⟩ = some (.slice (some ⟨b, off, none⟩) l.length A.kc) := by rw [← ea]; exact HH.out.h7
 have HK : Hid (IsLks W a' (iH (gX l n))) := hlk
 have e1' : Hid (W.cell? ⟨w.heap.size, 1, none⟩ = some (.bool t)) := e1
 clear hlk ea e1
 have i1 : (0 : Int) ≤ (n : Int) := by omega
 have i2 : (n : Int) < (l.length : Int) := by omega
 have CL : Hid (∀ w', Below W.heap.size W w' → Calls Tryz.prog 113 #[.pointer (some ⟨h, 0, none⟩), .int .i64 c, .int .i64 k] w' fun e w'' => e = .returned (.bool (c % sh == k)) ∧ Below w'.heap.size w' w'') := fun w' hb => lies_any (HH.out.below hb) hc
 have CI : Hid (∀ w', Below W.heap.size W w' → Calls Tryz.prog 160 #[.slice a' (iH (gX l n)).length c', .func (.func 162) #[] #[.pointer (some ⟨w.heap.size, 0, none⟩)]] w' fun e w'' => e = .returned (.bool ((iH (gX l n)).any fun q => (c : Int) == q.1 && (t || q.2))) ∧ Below w'.heap.size w' w'') := fun w' hb => inner_any n c t w.heap.size a' c' (HK.out.below hb) (aA hb e0) (aA hb e1'.out)
 have KS : Hid (∀ w', Below W.heap.size W w' → w'.cell? ⟨p, 0, none⟩ = some (.pointer (some ⟨h, 0, none⟩)) ∧ w'.cell? ⟨q, 0, none⟩ = some (.int .i64 k) ∧ w'.cell? ⟨r, 0, none⟩ = some (.int .i64 n) ∧ w'.cell? ⟨w.heap.size, 0, none⟩ = some (.int .i64 (c : Int)) ∧ w'.cell? ⟨h, 7, none⟩ = some (.slice (some ⟨b, off, none⟩) l.length A.kc) ∧ w'.cell? ⟨b, off + n, none⟩ = some (.slice a' (iH (gX l n)).length c') ∧ Hid (Below W.heap.size W w')) := fun w' hb => ⟨aA hb p0, aA hb q0, aA hb r0, aA hb e0, aA hb x7, aA hb y1, hb⟩
 clear HH HK e1'
 generalize hR : ((iH (gX l n)).any fun q => (c : Int) == q.1 && (t || q.2)) = R at CI
 generalize (iH (gX l n)).length = len at *
 generalize hV : (c % sh == k) = V at CL
 have HR : Hid (((iH (gX l n)).any fun q => (c : Int) == q.1 && (t || q.2)) = R) := hR
 have HV : Hid ((c % sh == k) = V) := hV
 clear hR hV
 cases V
 ·refine wp_region_held_drew (S := (fun w' => w'.cell? ⟨p, 0, none⟩ = some (.pointer (some ⟨h, 0, none⟩)) ∧ w'.cell? ⟨q, 0, none⟩ = some (.int .i64 k) ∧ w'.cell? ⟨r, 0, none⟩ = some (.int .i64 n) ∧ w'.cell? ⟨w.heap.size, 0, none⟩ = some (.int .i64 (c : Int)) ∧ w'.cell? ⟨h, 7, none⟩ = some (.slice (some ⟨b, off, none⟩) l.length A.kc) ∧ w'.cell? ⟨b, off + n, none⟩ = some (.slice a' len c') ∧ Hid (Below W.heap.size W w'))) (by kernel_rfl) ?_ (fun hHeld => ?_)
  ·refine KS.out _ ?_
   exact aD (Below.refl _ _)
  refine tk (i := 0) (oi := { dst := some 6, op := Op.load 82 (Operand.tmp 1), type := 82,  pos := "hall.go:150", after := #[], guard := none }) (v := ?_) rfl (by kernel_rfl) (by kernel_rfl) (by kernel_rfl) (fun _ _ _ h => h) (by rfl) (by assumption) ?_ ?_; rotate_left; focus (intro w hSw; go_simp; first | done | with_reducible rfl)
  try simp only [Act.put, List.setIfInBounds_toArray]
  refine tk (i := 1) (oi := { dst := some 7, op := Op.fieldAddr 134 (Operand.tmp 4) 0, type := 0,  pos := "hall.go:150", after := #[], guard := none }) (v := ?_) rfl (by kernel_rfl) (by kernel_rfl) (by kernel_rfl) (fun _ _ _ h => h) (by rfl) (by assumption) ?_ ?_; rotate_left; focus (intro w hSw; go_simp; first | done | with_reducible rfl)
  try simp only [Act.put, List.setIfInBounds_toArray]
  refine tk (i := 2) (oi := { dst := some 8, op := Op.load 3 (Operand.tmp 7), type := 3,  pos := "hall.go:150", after := #[{ on := 1, ground := Ground.data }], guard := none }) (v := ?_) rfl (by kernel_rfl) (by kernel_rfl) (by kernel_rfl) (fun _ _ _ h => h) (by rfl) (by assumption) ?_ ?_; rotate_left; focus (intro w hSw; go_simp; first | done | with_reducible rfl)
  try simp only [Act.put, List.setIfInBounds_toArray]
  refine tk (i := 3) (oi := { dst := some 9, op := Op.load 3 (Operand.tmp 2), type := 3,  pos := "hall.go:150", after := #[], guard := none }) (v := ?_) rfl (by kernel_rfl) (by kernel_rfl) (by kernel_rfl) (fun _ _ _ h => h) (by rfl) (by assumption) ?_ ?_; rotate_left; focus (intro w hSw; go_simp; first | done | with_reducible rfl)
  try simp only [Act.put, List.setIfInBounds_toArray]
  refine wpAnyH_ready (rs := [4]) (by kernel_rfl) (by simp) ?_
  refine AllReadyH.cons (o := { dst := some 10, op := Op.call { callee := Callee.value (Operand.func 113), args := #[Operand.tmp 6, Operand.tmp 8, Operand.tmp 9], argTypes := #[82, 3, 3] }, type := 4,  pos := "hall.go:150", after := #[{ on := 0, ground := Ground.data }, { on := 2, ground := Ground.data }, { on := 3, ground := Ground.data }], guard := none }) rfl (fun K hK => ?_) AllReadyH.nil
  go_simp
  go_wp2_with (go_at_call 113; refine (CL.out _ (aD (Below.refl _ _))).mono ?_; rintro e w1 ⟨rfl, hb1⟩)
  have BW : Hid (Below W.heap.size W w1) := aC (aD (Below.refl _ _)) hb1
  clear hHeld
  refine hK.out _ _ (KS.out _ BW.out) (fun hHeld => ?_)
  clear hK K
  refine tk (i := 5) (oi := { dst := some 11, op := Op.move (Operand.tmp 10), type := 4,  pos := "hall.go:150", after := #[{ on := 4, ground := Ground.data }, { on := 4, ground := Ground.chain }], guard := none }) (v := ?_) rfl (by kernel_rfl) (by kernel_rfl) (by kernel_rfl) (fun _ _ _ h => h) (by rfl) (by assumption) ?_ ?_; rotate_left; focus (intro w hSw; go_simp; first | done | with_reducible rfl)
  try simp only [Act.put, List.setIfInBounds_toArray]
  refine wpAnyH_take (i := 6) (oi := { dst := some 12, op := Op.load 82 (Operand.tmp 1), type := 82,  pos := "hall.go:150", after := #[{ on := 5, ground := Ground.guard }], guard := some (5, true) }) (v := undef) rfl (by kernel_rfl) (by kernel_rfl) (by kernel_rfl) (fun _ _ _ h => h) (Or.inr ⟨by rfl, rfl⟩) (by assumption) ?_
  try simp only [Act.put, List.setIfInBounds_toArray]
  refine wpAnyH_take (i := 7) (oi := { dst := some 13, op := Op.nilCheck (Operand.tmp 12), type := 0,  pos := "hall.go:150", after := #[{ on := 6, ground := Ground.data }, { on := 5, ground := Ground.guard }], guard := some (5, true) }) (v := undef) rfl (by kernel_rfl) (by kernel_rfl) (by kernel_rfl) (fun _ _ _ h => h) (Or.inr ⟨by rfl, rfl⟩) (by assumption) ?_
  try simp only [Act.put, List.setIfInBounds_toArray]
  refine wpAnyH_take (i := 8) (oi := { dst := some 14, op := Op.fieldAddr 87 (Operand.tmp 13) 4, type := 0,  pos := "hall.go:150", after := #[{ on := 7, ground := Ground.data }, { on := 5, ground := Ground.guard }], guard := some (5, true) }) (v := undef) rfl (by kernel_rfl) (by kernel_rfl) (by kernel_rfl) (fun _ _ _ h => h) (Or.inr ⟨by rfl, rfl⟩) (by assumption) ?_
  try simp only [Act.put, List.setIfInBounds_toArray]
  refine wpAnyH_take (i := 9) (oi := { dst := some 15, op := Op.load 85 (Operand.tmp 14), type := 85,  pos := "hall.go:150", after := #[{ on := 8, ground := Ground.data }, { on := 5, ground := Ground.guard }], guard := some (5, true) }) (v := undef) rfl (by kernel_rfl) (by kernel_rfl) (by kernel_rfl) (fun _ _ _ h => h) (Or.inr ⟨by rfl, rfl⟩) (by assumption) ?_
  try simp only [Act.put, List.setIfInBounds_toArray]
  refine wpAnyH_take (i := 10) (oi := { dst := some 16, op := Op.load 3 (Operand.tmp 3), type := 3,  pos := "hall.go:150", after := #[{ on := 5, ground := Ground.guard }], guard := some (5, true) }) (v := undef) rfl (by kernel_rfl) (by kernel_rfl) (by kernel_rfl) (fun _ _ _ h => h) (Or.inr ⟨by rfl, rfl⟩) (by assumption) ?_
  try simp only [Act.put, List.setIfInBounds_toArray]
  refine wpAnyH_take (i := 11) (oi := { dst := some 17, op := Op.indexAddr 85 (Operand.tmp 15) (Operand.tmp 16), type := 0,  pos := "hall.go:150", after := #[{ on := 9, ground := Ground.data }, { on := 10, ground := Ground.data }, { on := 5, ground := Ground.guard }], guard := some (5, true) }) (v := undef) rfl (by kernel_rfl) (by kernel_rfl) (by kernel_rfl) (fun _ _ _ h => h) (Or.inr ⟨by rfl, rfl⟩) (by assumption) ?_
  try simp only [Act.put, List.setIfInBounds_toArray]
  refine wpAnyH_take (i := 12) (oi := { dst := some 18, op := Op.load 131 (Operand.tmp 17), type := 131,  pos := "hall.go:150", after := #[{ on := 11, ground := Ground.data }, { on := 5, ground := Ground.guard }], guard := some (5, true) }) (v := undef) rfl (by kernel_rfl) (by kernel_rfl) (by kernel_rfl) (fun _ _ _ h => h) (Or.inr ⟨by rfl, rfl⟩) (by assumption) ?_
  try simp only [Act.put, List.setIfInBounds_toArray]
  refine wpAnyH_take (i := 13) (oi := { dst := some 19, op := Op.makeFunc (Fn.func 162) #[] #[Operand.tmp 4], type := 188,  pos := "hall.go:150", after := #[{ on := 5, ground := Ground.guard }], guard := some (5, true) }) (v := undef) rfl (by kernel_rfl) (by kernel_rfl) (by kernel_rfl) (fun _ _ _ h => h) (Or.inr ⟨by rfl, rfl⟩) (by assumption) ?_
  try simp only [Act.put, List.setIfInBounds_toArray]
  refine wpAnyH_take (i := 14) (oi := { dst := some 20, op := Op.call { callee := Callee.value (Operand.func 160), args := #[Operand.tmp 18, Operand.tmp 19], argTypes := #[131, 188] }, type := 4,  pos := "hall.go:150", after := #[{ on := 12, ground := Ground.data }, { on := 13, ground := Ground.data }, { on := 5, ground := Ground.chain }, { on := 5, ground := Ground.guard }], guard := some (5, true) }) (v := undef) rfl (by kernel_rfl) (by kernel_rfl) (by kernel_rfl) (fun _ _ _ h => h) (Or.inr ⟨by rfl, rfl⟩) (by assumption) ?_
  try simp only [Act.put, List.setIfInBounds_toArray]
  refine tk (i := 15) (oi := { dst := some 21, op := Op.pick (Operand.tmp 11) (Operand.tmp 20) (Operand.const (Value.bool false)), type := 4,  pos := "hall.go:150", after := #[{ on := 5, ground := Ground.data }, { on := 14, ground := Ground.data }], guard := none }) (v := ?_) rfl (by kernel_rfl) (by kernel_rfl) (by kernel_rfl) (fun _ _ _ h => h) (by rfl) (by assumption) ?_ ?_; rotate_left; focus (intro w hSw; go_simp; first | done | with_reducible rfl)
  try simp only [Act.put, List.setIfInBounds_toArray]
  refine tk (i := 16) (oi := { dst := some 5, op := Op.assign (Operand.tmp 21), type := 4,  pos := "hall.go:150", after := #[{ on := 15, ground := Ground.data }, { on := 14, ground := Ground.chain }, { on := 0, ground := Ground.phase }, { on := 1, ground := Ground.phase }, { on := 2, ground := Ground.phase }, { on := 3, ground := Ground.phase }, { on := 4, ground := Ground.phase }, { on := 5, ground := Ground.phase }, { on := 6, ground := Ground.phase }, { on := 7, ground := Ground.phase }, { on := 8, ground := Ground.phase }, { on := 9, ground := Ground.phase }, { on := 10, ground := Ground.phase }, { on := 11, ground := Ground.phase }, { on := 12, ground := Ground.phase }, { on := 13, ground := Ground.phase }, { on := 14, ground := Ground.phase }, { on := 15, ground := Ground.phase }], guard := none }) (v := ?_) rfl (by kernel_rfl) (by kernel_rfl) (by kernel_rfl) (fun _ _ _ h => h) (by rfl) (by assumption) ?_ ?_; rotate_left; focus (intro w hSw; go_simp; first | done | with_reducible rfl)
  try simp only [Act.put, List.setIfInBounds_toArray]
  refine wpAnyH_done (by kernel_rfl) ?_ _
  go_wp2
  go_ret
  exact ⟨by rw [HV.out, HR.out]; rfl, HU.out _ BW.out⟩
 ·go_region_held3 (fun w' => w'.cell? ⟨p, 0, none⟩ = some (.pointer (some ⟨h, 0, none⟩)) ∧ w'.cell? ⟨q, 0, none⟩ = some (.int .i64 k) ∧ w'.cell? ⟨r, 0, none⟩ = some (.int .i64 n) ∧ w'.cell? ⟨w.heap.size, 0, none⟩ = some (.int .i64 (c : Int)) ∧ w'.cell? ⟨h, 7, none⟩ = some (.slice (some ⟨b, off, none⟩) l.length A.kc) ∧ w'.cell? ⟨b, off + n, none⟩ = some (.slice a' len c') ∧ Hid (Below W.heap.size W w')) ((refine KS.out _ ?_; go_split_ands; repeat (first | assumption | exact Below.refl _ _ | exact Hid.out (by assumption) | refine aD ?_ | refine aB ?_ _ | refine aC ?_ (by assumption))))
   (first
    | (go_at_call 113; refine (CL.out _ ?_).mono ?_; (go_split_ands; repeat (first | assumption | exact Below.refl _ _ | exact Hid.out (by assumption) | refine aD ?_ | refine aB ?_ _ | refine aC ?_ (by assumption))); rintro e w' ⟨rfl, hbx⟩)
    | (go_at_call 160; refine (CI.out _ ?_).mono ?_; (go_split_ands; repeat (first | assumption | exact Below.refl _ _ | exact Hid.out (by assumption) | refine aD ?_ | refine aB ?_ _ | refine aC ?_ (by assumption))); rintro e w' ⟨rfl, hby⟩))
  all_goals (
   go_split_ands
   go_wp2
   go_ret
   refine ⟨by rw [HV.out, HR.out]; rfl, HU.out _ ?_⟩
   repeat (first | assumption | exact Below.refl _ _ | exact Hid.out (by assumption) | refine aD ?_ | refine aB ?_ _ | refine aC ?_ (by assumption)))
end Go.Proofs.YtebjkmknhpgemaaGreat
namespace Go.Proofs.YtebjkmknhpgemaaGreat
open Go.RowKit
variable {w : World} {h sh : Nat} {l : List TxA} {S : SA} {A : HA}
set_option maxHeartbeats 1000000 in
theorem clash_any (H : Hall w h sh l S A) {m n k : Nat} (hm : m < l.length) (hn : n < l.length) (hk : k < sh) :
  Calls Tryz.prog 152 #[.pointer (some ⟨h, 0, none⟩), .int .i64 m, .int .i64 n, .int .i64 k] w fun e w' => e = .returned (.bool (lU sh (gX l m) (gX l n) k)) ∧ Below w.heap.size w w' := by
 have e1 := aB (aB (aB (Below.refl w.heap.size w) (.cells #[.pointer (some ⟨h, 0, none⟩)] 82)) (.cells #[.int .i64 n] 3)) (.cells #[.int .i64 k] 3)
 have c0 : (((w.alloc (.cells #[.pointer (some ⟨h, 0, none⟩)] 82)).alloc (.cells #[.int .i64 n] 3)).alloc (.cells #[.int .i64 k] 3)).cell? ⟨w.heap.size, 0, none⟩ = some (.pointer (some ⟨h, 0, none⟩)) := aA (aB (Below.refl _ _) _) (aA (aB (Below.refl _ _) _) (aE w _ 82 _ 0 _ rfl rfl))
 have c1 : (((w.alloc (.cells #[.pointer (some ⟨h, 0, none⟩)] 82)).alloc (.cells #[.int .i64 n] 3)).alloc (.cells #[.int .i64 k] 3)).cell? ⟨w.heap.size + 1, 0, none⟩ = some (.int .i64 n) := aA (aB (Below.refl _ _) _) (aE _ _ 3 _ 0 _ (by simp) rfl)
 have c2 : (((w.alloc (.cells #[.pointer (some ⟨h, 0, none⟩)] 82)).alloc (.cells #[.int .i64 n] 3)).alloc (.cells #[.int .i64 k] 3)).cell? ⟨w.heap.size + 2, 0, none⟩ = some (.int .i64 k) := aE _ _ 3 _ 0 _ (by simp) rfl
 have HH := H.below e1
 obtain ⟨b, off, a', c', ea, _, y1, hlk, _⟩ := HH.lk m hm
 have x7 : (((w.alloc (.cells #[.pointer (some ⟨h, 0, none⟩)] 82)).alloc (.cells #[.int .i64 n] 3)).alloc (.cells #[.int .i64 k] 3)).cell? ⟨h, 7, none⟩ = some (.slice (some ⟨b, off, none⟩) l.length A.kc) := by rw [← ea]; exact HH.h7
 have CC : Hid (Calls Tryz.prog 160 #[.slice a' (iH (gX l m)).length c', .func (.func 161) #[] #[.pointer (some ⟨w.heap.size, 0, none⟩), .pointer (some ⟨w.heap.size + 2, 0, none⟩), .pointer (some ⟨w.heap.size + 1, 0, none⟩)]] (((w.alloc (.cells #[.pointer (some ⟨h, 0, none⟩)] 82)).alloc (.cells #[.int .i64 n] 3)).alloc (.cells #[.int .i64 k] 3)) fun e w' => e = .returned (.bool (lU sh (gX l m) (gX l n) k)) ∧ Below (((w.alloc (.cells #[.pointer (some ⟨h, 0, none⟩)] 82)).alloc (.cells #[.int .i64 n] 3)).alloc (.cells #[.int .i64 k] 3)).heap.size (((w.alloc (.cells #[.pointer (some ⟨h, 0, none⟩)] 82)).alloc (.cells #[.int .i64 n] 3)).alloc (.cells #[.int .i64 k] 3)) w') := by
  have hh := nC (iH (gX l m)) a' c' 161 #[.pointer (some ⟨w.heap.size, 0, none⟩), .pointer (some ⟨w.heap.size + 2, 0, none⟩), .pointer (some ⟨w.heap.size + 1, 0, none⟩)] (fun p => p.1.toNat % sh == k && (iH (gX l n)).any fun q => p.1 == q.1 && (p.2 || q.2)) _ hlk (by have := lk_len (gX l m); omega) (fun _ _ => rfl) (fun z t hz w' hb => by
   obtain ⟨c, hc, rfl⟩ := lk_mem hz
   have := cl161 (HH.below hb) hn hk c hc t w.heap.size (w.heap.size + 2) (w.heap.size + 1) (aA hb c0) (aA hb c2) (aA hb c1)
   exact this)
  rw [← lkClash_eq]
  exact hh
 have E1 : Hid (Below w.heap.size w (((w.alloc (.cells #[.pointer (some ⟨h, 0, none⟩)] 82)).alloc (.cells #[.int .i64 n] 3)).alloc (.cells #[.int .i64 k] 3))) := e1
 have i1 : (0 : Int) ≤ (m : Int) := by omega
 have i2 : (m : Int) < (l.length : Int) := by omega
 generalize lU sh (gX l m) (gX l n) k = R at *
 generalize (iH (gX l m)).length = len at *
 clear HH H hlk e1 c1 c2 ea
 go_enter Tryz.func152, Tryz.ntmps152
 go_wp2_with fail
 refine CC.out.mono ?_
 clear CC
 rintro e w1 ⟨rfl, hb⟩
 have B1 : Hid (Below w.heap.size w w1) := aC E1.out hb
 clear hb E1 c0 x7 y1
 go_wp2
 go_ret
 exact ⟨rfl, B1.out⟩
set_option maxHeartbeats 1000000 in
theorem blocked_any (H : Hall w h sh l S A) {n k : Nat} (hn : n < l.length) (hk : k < sh) :
  Calls Tryz.prog 137 #[.pointer (some ⟨h, 0, none⟩), .int .i64 n, .int .i64 k] w fun e w' => e = .returned (.bool (iN sh l S n k)) ∧ Below w.heap.size w w' := by
 have HH : Hid (Hall w h sh l S A) := H
 have HS : Hid (∀ m, iA sh l S n k (m + 1) = (iA sh l S n k m || (!aU sh l S m k && lU sh (gX l m) (gX l n) k))) := fun m => any_to _ m
 have HD : Hid (∀ m, m < n → (!aU sh l S m k && lU sh (gX l m) (gX l n) k) = true → iN sh l S n k = true) := fun m hm e => any_stop hm e
 have HF : Hid (iN sh l S n k = iA sh l S n k n) := rfl
 have H0 : Hid (iA sh l S n k 0 = false) := rfl
 have hl8 := H.l8
 clear H
 generalize iN sh l S n k = R at *
 generalize hbt : iA sh l S n k = bt at *
 clear hbt
 go_enter Tryz.func137, Tryz.ntmps137
 go_wp2
 go_loopw [7, 9] (fun _ i wr => ∃ m : Nat, m ≤ n ∧ i = .int .i64 m ∧ Hid (bt m = false) ∧ Hid (Below w.heap.size w wr)) (fun _ i _ => n - (intOf i).toNat)
 case atStart => exact ⟨0, Nat.zero_le _, rfl, H0, Below.refl _ _⟩
 case round =>
  obtain ⟨m, hm, rfl, hC, hB⟩ := hrel
  by_cases hlt : m < n
  ·have hml : m < l.length := by omega
   have HT : Hid (bt (m + 1) = (!aU sh l S m k && lU sh (gX l m) (gX l n) k)) := by show _ = _; rw [HS.out, hC.out]; rfl
   have HDm : Hid ((!aU sh l S m k && lU sh (gX l m) (gX l n) k) = true → R = true) := HD.out m hlt
   have CG : Hid (Calls Tryz.prog 50 #[.pointer (some ⟨h, 0, none⟩), .int .i64 m, .int .i64 k] wr fun e w' => e = .returned (.bool (aU sh l S m k)) ∧ w' = wr) := gone_any (HH.out.below hB.out) hml hk
   have CC : Hid (Calls Tryz.prog 152 #[.pointer (some ⟨h, 0, none⟩), .int .i64 m, .int .i64 n, .int .i64 k] wr fun e w' => e = .returned (.bool (lU sh (gX l m) (gX l n) k)) ∧ Below wr.heap.size wr w') := clash_any (HH.out.below hB.out) hml hn hk
   generalize aU sh l S m k = g at *
   generalize lU sh (gX l m) (gX l n) k = c at *
   clear HS HD HF hC HH
   have i1 : (m : Int) < (n : Int) := by omega
   cases g
   ·go_wp2_with fail
    refine CG.out.mono ?_
    rintro e w1 ⟨rfl, hw1⟩
    subst hw1
    clear CG
    go_wp2_with fail
    refine CC.out.mono ?_
    rintro e w1 ⟨rfl, hb1⟩
    have B1 : Hid (Below w.heap.size w w1) := aC hB.out hb1
    clear CC hb1 hB
    cases c
    ·go_wp2
     go_roundw
     case rel => exact ⟨m + 1, by omega, by go_num, HT.out, B1⟩
     case measure => simp [intOf]; omega
    ·have HR : Hid (R = true) := HDm.out rfl
     clear HDm HT
     go_wp2
     go_ret
     exact ⟨by rw [HR.out]; rfl, B1.out⟩
   ·go_wp2_with fail
    refine CG.out.mono ?_
    rintro e w1 ⟨rfl, hw1⟩
    subst hw1
    clear CG CC
    go_wp2
    go_roundw
    case rel => exact ⟨m + 1, by omega, by go_num, HT.out, hB⟩
    case measure => simp [intOf]; omega
  ·have hmm : m = n := by omega
   have HR : Hid (R = false) := by
    have := hC.out
    rw [hmm] at this
    exact HF.out.trans this
   have i1 : ¬ (m : Int) < (n : Int) := by omega
   clear HS HD HF hC HH
   go_wp2
   go_ret
   exact ⟨by rw [HR.out]; rfl, hB.out⟩
end Go.Proofs.YtebjkmknhpgemaaGreat
