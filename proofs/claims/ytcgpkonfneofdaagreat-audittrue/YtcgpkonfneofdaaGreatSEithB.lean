/-
  
  Conditions: those that each theorem states.
-/
import Derived.Test.YtcgpkonfneofdaaGreatSEithA
namespace Go.Proofs.YtcgpkonfneofdaaGreat
open Go.RowKit
def chK (c : Int) (n : Nat) : Nat := if c < 0 then ((-(c + 1)) % (n : Int)).toNat else (c % (n : Int)).toNat
theorem chK_lt (c : Int) {n : Nat} (h : 0 < n) : chK c n < n := by
 unfold chK
 split
 ·have := Int.emod_lt_of_pos (-(c + 1)) (b := (n : Int)) (by omega)
  have := Int.emod_nonneg (-(c + 1)) (b := (n : Int)) (by omega)
  omega
 ·have := Int.emod_lt_of_pos c (b := (n : Int)) (by omega)
  have := Int.emod_nonneg c (b := (n : Int)) (by omega)
  omega
set_option maxRecDepth 100000 in
theorem choose_is (c : Int) (n : Nat) (w : World) (hc : (Lit.int .i64 c).wf = true) (hn : 0 < n) (hn' : n ≤ 100) :
  Calls Tryz.prog 8 #[.int .i64 c, .int .i64 n] w fun e w' => e = .returned (.int .i64 (chK c n : Nat)) ∧ w' = w := by
 obtain ⟨c1, c2⟩ := wf_bounds hc
 clear hc
 by_cases h : c < 0
 ·have h1 : 0 ≤ (-(c + 1)) % (n : Int) := Int.emod_nonneg _ (by omega)
  have e0 : chK c n = ((-(c + 1)) % (n : Int)).toNat := if_pos h
  rw [e0]
  generalize hk : ((-(c + 1)) % (n : Int)).toNat = K
  go_enter Tryz.func8, Tryz.ntmps8
  go_wp2
  go_ret
  refine ⟨?_, rfl⟩
  show Ending.returned (Value.int .i64 (-(c + 1).tmod ↑n)) = _
  rw [← hk, Int.toNat_of_nonneg h1, ← Int.neg_tmod, Int.tmod_eq_emod_of_nonneg (by omega)]
 ·have h1 : 0 ≤ c % (n : Int) := Int.emod_nonneg _ (by omega)
  have e0 : chK c n = (c % (n : Int)).toNat := if_neg h
  rw [e0]
  generalize hk : (c % (n : Int)).toNat = K
  go_enter Tryz.func8, Tryz.ntmps8
  go_wp2
  go_ret
  refine ⟨?_, rfl⟩
  show Ending.returned (Value.int .i64 (c % ↑n)) = _
  rw [← hk, Int.toNat_of_nonneg h1]
theorem put4 {w : World} {R : Nat} (q : Q4) {u0 u1 u2 u3 : Value} (t0 : w.cell? ⟨R, 0, none⟩ = some u0) (t1 : w.cell? ⟨R, 1, none⟩ = some u1) (t2 : w.cell? ⟨R, 2, none⟩ = some u2) (t3 : w.cell? ⟨R, 3, none⟩ = some u3) : ((((w.setCell ⟨R, 0, none⟩ (.slice q.sa q.sn q.sc)).setCell ⟨R, 1, none⟩ (.slice q.ra q.rn q.rc)).setCell ⟨R, 2, none⟩ (.slice q.wa q.wn q.tc)).setCell ⟨R, 3, none⟩ (.slice q.va q.vn q.vc)).cell? ⟨R, 0, none⟩ = some (.slice q.sa q.sn q.sc) ∧ ((((w.setCell ⟨R, 0, none⟩ (.slice q.sa q.sn q.sc)).setCell ⟨R, 1, none⟩ (.slice q.ra q.rn q.rc)).setCell ⟨R, 2, none⟩ (.slice q.wa q.wn q.tc)).setCell ⟨R, 3, none⟩ (.slice q.va q.vn q.vc)).cell? ⟨R, 1, none⟩ = some (.slice q.ra q.rn q.rc) ∧ ((((w.setCell ⟨R, 0, none⟩ (.slice q.sa q.sn q.sc)).setCell ⟨R, 1, none⟩ (.slice q.ra q.rn q.rc)).setCell ⟨R, 2, none⟩ (.slice q.wa q.wn q.tc)).setCell ⟨R, 3, none⟩ (.slice q.va q.vn q.vc)).cell? ⟨R, 2, none⟩ = some (.slice q.wa q.wn q.tc) ∧ ((((w.setCell ⟨R, 0, none⟩ (.slice q.sa q.sn q.sc)).setCell ⟨R, 1, none⟩ (.slice q.ra q.rn q.rc)).setCell ⟨R, 2, none⟩ (.slice q.wa q.wn q.tc)).setCell ⟨R, 3, none⟩ (.slice q.va q.vn q.vc)).cell? ⟨R, 3, none⟩ = some (.slice q.va q.vn q.vc) := ⟨(set_off (by decide) (set_off (by decide) (set_off (by decide) (set_here t0)))), (set_off (by decide) (set_off (by decide) (set_here (set_off (by decide) t1)))), (set_off (by decide) (set_here (set_off (by decide) (set_off (by decide) t2)))), (set_here (set_off (by decide) (set_off (by decide) (set_off (by decide) t3))))⟩
variable (la : Option Addr) (lc : Nat) (l : List TxA) (sa : Option Addr) (sc : Nat) (s : List Int) (pa : Option Addr) (pc : Nat) (pk : List Int)
end Go.Proofs.YtcgpkonfneofdaaGreat
