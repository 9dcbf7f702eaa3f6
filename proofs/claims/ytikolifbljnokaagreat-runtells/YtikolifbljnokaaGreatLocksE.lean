/-
  locks.Ready: those that are not done and are granted all keys that they want.
  Conditions: the arguments can be read.
-/
import Derived.Test.YtikolifbljnokaaGreatLocksD
import Derived.WalkKit
import Derived.WalkSpells
import Derived.WalkLawsBesides
import Derived.Defers
import Derived.Recover
import Derived.ProofKit
import Derived.Deep.RegionHeld
import Derived.Deep.RegionHeld3
import Derived.BigQuiet
import Derived.Deep.RegionLaw
import Derived.Deep.DeepCutAuto
import Derived.Maps.AppendAt
namespace Go.Proofs.YtikolifbljnokaaGreat
open Go.RowKit

section
variable (l : List TxA) (done : List Bool) (va : Nat → Option Addr) (vc : Nat → Nat)

theorem at_new (W : World) (cs : Array Value) (ty : TypeId) (b j : Nat) (v : Value) (hb : b = W.heap.size) (hj : cs[j]? = some v) : (W.alloc (.cells cs ty)).cell? ⟨b, j, none⟩ = some v := by
  subst hb
  simp [hj]
theorem grantedAll_is (n : Nat) : (lkTo (gX l n).rs (keysOf (gX l n).ss) 8).any (fun p => !grantedV (qOf l done p.1.toNat) n) = !grantedAll l done n := by
  unfold grantedAll
  rw [List.all_eq_not_any_not, Bool.not_not]
  rfl
theorem qOf_len (hl : l.length ≤ 8) (k : Nat) : (qOf l done k).length ≤ 8 := Nat.le_trans (queueK_len l done k l.length) hl

set_option maxRecDepth 100000 in
set_option maxHeartbeats 2000000 in
theorem grantedAll_any (n : Nat) (x : TxA) (hx0 : x = gX l n) (w : World) (hx : IsX w x) (cx : chkX x = 0) (hn : n < l.length) (hl : l.length ≤ 8) (hd : dn done n = false) (hQ : ∀ k, k < 8 → IsLks w (va k) (qI (qOf l done k)) ∧ (qOf l done k).length ≤ vc k) :
    Calls Tryz.prog 60 #[.agg #[.slice (va 0) (qOf l done 0).length (vc 0), .slice (va 1) (qOf l done 1).length (vc 1), .slice (va 2) (qOf l done 2).length (vc 2), .slice (va 3) (qOf l done 3).length (vc 3), .slice (va 4) (qOf l done 4).length (vc 4), .slice (va 5) (qOf l done 5).length (vc 5), .slice (va 6) (qOf l done 6).length (vc 6), .slice (va 7) (qOf l done 7).length (vc 7)], .int .i64 n, .agg #[.slice x.ra x.rs.length x.rc, .slice x.ga x.gs.length x.gc, .slice x.sa x.ss.length x.sc]] w fun e w' => e = .returned (.bool (grantedAll l done n)) ∧ Below w.heap.size w w' := by
  have g1 : Below w.heap.size w (((w.alloc (.cells #[.slice (va 0) (qOf l done 0).length (vc 0), .slice (va 1) (qOf l done 1).length (vc 1), .slice (va 2) (qOf l done 2).length (vc 2), .slice (va 3) (qOf l done 3).length (vc 3), .slice (va 4) (qOf l done 4).length (vc 4), .slice (va 5) (qOf l done 5).length (vc 5), .slice (va 6) (qOf l done 6).length (vc 6), .slice (va 7) (qOf l done 7).length (vc 7)] 94)).alloc (.cells #[.int .i64 n] 3)).alloc (.cells #[.slice x.ra x.rs.length x.rc, .slice x.ga x.gs.length x.gc, .slice x.sa x.ss.length x.sc] 38)) := grow_alloc (grow_alloc (grow_alloc (Below.refl _ _) _) _) _
  have HI : Hid ((lkTo x.rs (keysOf x.ss) 8).any (fun p => !grantedV (qOf l done p.1.toNat) n) = !grantedAll l done n) := by
    subst hx0
    exact grantedAll_is l done n
  have hP : ∀ k, k < 8 → (((w.alloc (.cells #[.slice (va 0) (qOf l done 0).length (vc 0), .slice (va 1) (qOf l done 1).length (vc 1), .slice (va 2) (qOf l done 2).length (vc 2), .slice (va 3) (qOf l done 3).length (vc 3), .slice (va 4) (qOf l done 4).length (vc 4), .slice (va 5) (qOf l done 5).length (vc 5), .slice (va 6) (qOf l done 6).length (vc 6), .slice (va 7) (qOf l done 7).length (vc 7)] 94)).alloc (.cells #[.int .i64 n] 3)).alloc (.cells #[.slice x.ra x.rs.length x.rc, .slice x.ga x.gs.length x.gc, .slice x.sa x.ss.length x.sc] 38)).cell? ⟨w.heap.size, k, none⟩ = some (.slice (va k) (qOf l done k).length (vc k)) := fun k hk => by
    rw [World.cell?_alloc_lt _ _ _ (by simp; omega), World.cell?_alloc_lt _ _ _ (by simp)]
    match k, hk with
    | 0, _ => simp
    | 1, _ => simp
    | 2, _ => simp
    | 3, _ => simp
    | 4, _ => simp
    | 5, _ => simp
    | 6, _ => simp
    | 7, _ => simp
  have hR : (((w.alloc (.cells #[.slice (va 0) (qOf l done 0).length (vc 0), .slice (va 1) (qOf l done 1).length (vc 1), .slice (va 2) (qOf l done 2).length (vc 2), .slice (va 3) (qOf l done 3).length (vc 3), .slice (va 4) (qOf l done 4).length (vc 4), .slice (va 5) (qOf l done 5).length (vc 5), .slice (va 6) (qOf l done 6).length (vc 6), .slice (va 7) (qOf l done 7).length (vc 7)] 94)).alloc (.cells #[.int .i64 n] 3)).alloc (.cells #[.slice x.ra x.rs.length x.rc, .slice x.ga x.gs.length x.gc, .slice x.sa x.ss.length x.sc] 38)).cell? ⟨w.heap.size + 1, 0, none⟩ = some (.int .i64 n) := by
    rw [World.cell?_alloc_lt _ _ _ (by simp)]; simp
  have y0 : (((w.alloc (.cells #[.slice (va 0) (qOf l done 0).length (vc 0), .slice (va 1) (qOf l done 1).length (vc 1), .slice (va 2) (qOf l done 2).length (vc 2), .slice (va 3) (qOf l done 3).length (vc 3), .slice (va 4) (qOf l done 4).length (vc 4), .slice (va 5) (qOf l done 5).length (vc 5), .slice (va 6) (qOf l done 6).length (vc 6), .slice (va 7) (qOf l done 7).length (vc 7)] 94)).alloc (.cells #[.int .i64 n] 3)).alloc (.cells #[.slice x.ra x.rs.length x.rc, .slice x.ga x.gs.length x.gc, .slice x.sa x.ss.length x.sc] 38)).cell? ⟨w.heap.size + 2, 0, none⟩ = some (.slice x.ra x.rs.length x.rc) := at_new _ _ 38 _ 0 _ (by simp) rfl
  have y1 : (((w.alloc (.cells #[.slice (va 0) (qOf l done 0).length (vc 0), .slice (va 1) (qOf l done 1).length (vc 1), .slice (va 2) (qOf l done 2).length (vc 2), .slice (va 3) (qOf l done 3).length (vc 3), .slice (va 4) (qOf l done 4).length (vc 4), .slice (va 5) (qOf l done 5).length (vc 5), .slice (va 6) (qOf l done 6).length (vc 6), .slice (va 7) (qOf l done 7).length (vc 7)] 94)).alloc (.cells #[.int .i64 n] 3)).alloc (.cells #[.slice x.ra x.rs.length x.rc, .slice x.ga x.gs.length x.gc, .slice x.sa x.ss.length x.sc] 38)).cell? ⟨w.heap.size + 2, 1, none⟩ = some (.slice x.ga x.gs.length x.gc) := at_new _ _ 38 _ 1 _ (by simp) rfl
  have y2 : (((w.alloc (.cells #[.slice (va 0) (qOf l done 0).length (vc 0), .slice (va 1) (qOf l done 1).length (vc 1), .slice (va 2) (qOf l done 2).length (vc 2), .slice (va 3) (qOf l done 3).length (vc 3), .slice (va 4) (qOf l done 4).length (vc 4), .slice (va 5) (qOf l done 5).length (vc 5), .slice (va 6) (qOf l done 6).length (vc 6), .slice (va 7) (qOf l done 7).length (vc 7)] 94)).alloc (.cells #[.int .i64 n] 3)).alloc (.cells #[.slice x.ra x.rs.length x.rc, .slice x.ga x.gs.length x.gc, .slice x.sa x.ss.length x.sc] 38)).cell? ⟨w.heap.size + 2, 2, none⟩ = some (.slice x.sa x.ss.length x.sc) := at_new _ _ 38 _ 2 _ (by simp) rfl
  have HX : Hid (IsX w x) := hx
  have HCX : Hid (chkX x = 0) := cx
  have HM : Hid (∀ z b, (z, b) ∈ lkTo x.rs (keysOf x.ss) 8 → ∃ κ : Nat, κ < 8 ∧ z = κ ∧ ∃ p ∈ qOf l done κ, p.1 = n) := fun z b hm => by
    obtain ⟨κ, hκ, hh, e⟩ := (lkX_mem x (z, b)).1 hm
    injection e with e1 e2
    subst hx0
    exact ⟨κ, hκ, e1, (n, wrX (gX l n) κ), (queueK_mem l done κ (n, wrX (gX l n) κ) l.length).2 ⟨hn, hd, hh, rfl⟩, rfl⟩
  have HQ : Hid (∀ k, k < 8 → IsLks w (va k) (qI (qOf l done k)) ∧ (qOf l done k).length ≤ vc k) := hQ
  have HN : Hid (∀ k, (qOf l done k).length ≤ 8) := qOf_len l done hl
  have LN : Hid ((lkTo x.rs (keysOf x.ss) 8).length ≤ 8) := lkTo_len _ _ 8
  have hmf : ∀ (fn : Fn) (first cap : Array Value) (w : World), (Instr.makeFunc fn first cap).run Tryz.prog w = .ok (.func fn first cap) w := fun _ _ _ _ => rfl
  clear hx cx hn hl hd hQ hx0
  have CC : Hid (∀ (w' : World) (a : Option Addr) (c : Nat), Below (((w.alloc (.cells #[.slice (va 0) (qOf l done 0).length (vc 0), .slice (va 1) (qOf l done 1).length (vc 1), .slice (va 2) (qOf l done 2).length (vc 2), .slice (va 3) (qOf l done 3).length (vc 3), .slice (va 4) (qOf l done 4).length (vc 4), .slice (va 5) (qOf l done 5).length (vc 5), .slice (va 6) (qOf l done 6).length (vc 6), .slice (va 7) (qOf l done 7).length (vc 7)] 94)).alloc (.cells #[.int .i64 n] 3)).alloc (.cells #[.slice x.ra x.rs.length x.rc, .slice x.ga x.gs.length x.gc, .slice x.sa x.ss.length x.sc] 38)).heap.size (((w.alloc (.cells #[.slice (va 0) (qOf l done 0).length (vc 0), .slice (va 1) (qOf l done 1).length (vc 1), .slice (va 2) (qOf l done 2).length (vc 2), .slice (va 3) (qOf l done 3).length (vc 3), .slice (va 4) (qOf l done 4).length (vc 4), .slice (va 5) (qOf l done 5).length (vc 5), .slice (va 6) (qOf l done 6).length (vc 6), .slice (va 7) (qOf l done 7).length (vc 7)] 94)).alloc (.cells #[.int .i64 n] 3)).alloc (.cells #[.slice x.ra x.rs.length x.rc, .slice x.ga x.gs.length x.gc, .slice x.sa x.ss.length x.sc] 38)) w' → IsLks w' a (lkTo x.rs (keysOf x.ss) 8) → Calls Tryz.prog 75 #[.slice a (lkTo x.rs (keysOf x.ss) 8).length c, .func (.func 76) #[] #[.pointer (some ⟨w.heap.size, 0, none⟩), .pointer (some ⟨w.heap.size + 1, 0, none⟩)]] w' fun e w'' => e = .returned (.bool (!grantedAll l done n)) ∧ Below w'.heap.size w' w'') := fun w' a c hb hk => by
    have h := contains87_in (lkTo x.rs (keysOf x.ss) 8) a c 76 #[.pointer (some ⟨w.heap.size, 0, none⟩), .pointer (some ⟨w.heap.size + 1, 0, none⟩)] (fun p => !grantedV (qOf l done p.1.toNat) n) w' hk (by have := LN.out; omega) (fun _ _ => rfl) (fun z b hm w2 hb2 => by
      obtain ⟨κ, hκ, rfl, hin⟩ := HM.out z b hm
      exact cl88 (qOf l done) va vc n κ hκ b w.heap.size (w.heap.size + 1) w2 (fun k hk => ext_cell hb2 (ext_cell hb (hP k hk))) (ext_cell hb2 (ext_cell hb hR)) (((HQ.out κ hκ).1.below g1).below (grow_trans hb hb2)) (HQ.out κ hκ).2 (by have := HN.out κ; omega) hin)
    rw [HI.out] at h
    exact h
  have CL : Hid (Calls Tryz.prog 74 #[.agg #[.slice x.ra x.rs.length x.rc, .slice x.ga x.gs.length x.gc, .slice x.sa x.ss.length x.sc]] (((w.alloc (.cells #[.slice (va 0) (qOf l done 0).length (vc 0), .slice (va 1) (qOf l done 1).length (vc 1), .slice (va 2) (qOf l done 2).length (vc 2), .slice (va 3) (qOf l done 3).length (vc 3), .slice (va 4) (qOf l done 4).length (vc 4), .slice (va 5) (qOf l done 5).length (vc 5), .slice (va 6) (qOf l done 6).length (vc 6), .slice (va 7) (qOf l done 7).length (vc 7)] 94)).alloc (.cells #[.int .i64 n] 3)).alloc (.cells #[.slice x.ra x.rs.length x.rc, .slice x.ga x.gs.length x.gc, .slice x.sa x.ss.length x.sc] 38)) fun e w' => ∃ a c, e = .returned (.slice a (lkTo x.rs (keysOf x.ss) 8).length c) ∧ IsLks w' a (lkTo x.rs (keysOf x.ss) 8) ∧ Below (((w.alloc (.cells #[.slice (va 0) (qOf l done 0).length (vc 0), .slice (va 1) (qOf l done 1).length (vc 1), .slice (va 2) (qOf l done 2).length (vc 2), .slice (va 3) (qOf l done 3).length (vc 3), .slice (va 4) (qOf l done 4).length (vc 4), .slice (va 5) (qOf l done 5).length (vc 5), .slice (va 6) (qOf l done 6).length (vc 6), .slice (va 7) (qOf l done 7).length (vc 7)] 94)).alloc (.cells #[.int .i64 n] 3)).alloc (.cells #[.slice x.ra x.rs.length x.rc, .slice x.ga x.gs.length x.gc, .slice x.sa x.ss.length x.sc] 38)).heap.size (((w.alloc (.cells #[.slice (va 0) (qOf l done 0).length (vc 0), .slice (va 1) (qOf l done 1).length (vc 1), .slice (va 2) (qOf l done 2).length (vc 2), .slice (va 3) (qOf l done 3).length (vc 3), .slice (va 4) (qOf l done 4).length (vc 4), .slice (va 5) (qOf l done 5).length (vc 5), .slice (va 6) (qOf l done 6).length (vc 6), .slice (va 7) (qOf l done 7).length (vc 7)] 94)).alloc (.cells #[.int .i64 n] 3)).alloc (.cells #[.slice x.ra x.rs.length x.rc, .slice x.ga x.gs.length x.gc, .slice x.sa x.ss.length x.sc] 38)) w') := lkLocksOf_ok x _ (HX.out.below g1) HCX.out
  have G1 : Hid (Below w.heap.size w (((w.alloc (.cells #[.slice (va 0) (qOf l done 0).length (vc 0), .slice (va 1) (qOf l done 1).length (vc 1), .slice (va 2) (qOf l done 2).length (vc 2), .slice (va 3) (qOf l done 3).length (vc 3), .slice (va 4) (qOf l done 4).length (vc 4), .slice (va 5) (qOf l done 5).length (vc 5), .slice (va 6) (qOf l done 6).length (vc 6), .slice (va 7) (qOf l done 7).length (vc 7)] 94)).alloc (.cells #[.int .i64 n] 3)).alloc (.cells #[.slice x.ra x.rs.length x.rc, .slice x.ga x.gs.length x.gc, .slice x.sa x.ss.length x.sc] 38))) := g1
  clear hP hR HQ HN HM HI LN HCX HX g1
  generalize (lkTo x.rs (keysOf x.ss) 8) = L at *
  go_enter Tryz.func60, Tryz.ntmps60
  go_upto_region 1 with fail
  generalize (((w.alloc (.cells #[.slice (va 0) (qOf l done 0).length (vc 0), .slice (va 1) (qOf l done 1).length (vc 1), .slice (va 2) (qOf l done 2).length (vc 2), .slice (va 3) (qOf l done 3).length (vc 3), .slice (va 4) (qOf l done 4).length (vc 4), .slice (va 5) (qOf l done 5).length (vc 5), .slice (va 6) (qOf l done 6).length (vc 6), .slice (va 7) (qOf l done 7).length (vc 7)] 94)).alloc (.cells #[.int .i64 n] 3)).alloc (.cells #[.slice x.ra x.rs.length x.rc, .slice x.ga x.gs.length x.gc, .slice x.sa x.ss.length x.sc] 38)) = U at *
  go_wp2_with fail
  refine CL.out.mono ?_
  clear CL
  rintro e w1 ⟨a, c, rfl, hK, hb1⟩
  have HK : Hid (IsLks w1 a L) := hK
  have B1 : Hid (Below U.heap.size U w1) := hb1
  clear hK hb1 y0 y1 y2
  go_wp2_with fail
  refine (CC.out w1 a c B1.out HK.out).mono ?_
  rintro e w2 ⟨rfl, hb2⟩
  have R : Hid (Below w.heap.size w w2) := grow_trans G1.out (grow_trans B1.out hb2)
  clear hb2 CC HK
  go_wp2
  go_ret
  exact ⟨by rw [show (grantedAll l done n) = !!grantedAll l done n by simp]; rfl, R.out⟩
end
end Go.Proofs.YtikolifbljnokaaGreat
