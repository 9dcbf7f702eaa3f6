/-
  
  Conditions: those that each theorem states.
-/
import Derived.Test.YtebjkmknhpgemaaGreatUTxnD
import Derived.Maps.AppendAt
set_option maxRecDepth 100000
namespace Go.Proofs.YtebjkmknhpgemaaGreat
open Go.RowKit
def bF (rs : List Int) (gs : List Gd) (ss : List St) : Int := aF [bQ rs.length gs.length ss.length, dU rs ss, aF (gs.map (bM rs.length)), aF (ss.map (bN rs.length))]
variable (ra ga sa : Option Addr) (rc gc sc : Nat) (rs : List Int) (gs : List Gd) (ss : List St)
theorem jL (w : World) (ht : IsTx w ra ga sa rs gs ss) (h : aF (gs.map (bM rs.length)) = 0) :
  Calls Tryz.prog 146 #[.agg #[.slice ra rs.length rc, .slice ga gs.length gc, .slice sa ss.length sc]] w fun e w' => e = .returned (.tuple #[]) ∧ Below w.heap.size w w' :=
 (iY ra ga sa rc gc sc rs gs ss w ht).mono fun _ _ ⟨hc, hb⟩ => ⟨hc.elim (fun x => x.2) (fun x => absurd h x.1), hb⟩
theorem nJ (w : World) (ht : IsTx w ra ga sa rs gs ss) (h : ¬ aF (gs.map (bM rs.length)) = 0) :
  Calls Tryz.prog 146 #[.agg #[.slice ra rs.length rc, .slice ga gs.length gc, .slice sa ss.length sc]] w fun e w' => e = .panicked [{ v := .iface 30 (.int .i64 (aF (gs.map (bM rs.length)))), recovered := false }] ∧ Below w.heap.size w w' :=
 (iY ra ga sa rc gc sc rs gs ss w ht).mono fun _ _ ⟨hc, hb⟩ => ⟨hc.elim (fun x => absurd x.1 h) (fun x => x.2), hb⟩
theorem checkSets_ok (w : World) (ht : IsTx w ra ga sa rs gs ss) (h : aF (ss.map (bN rs.length)) = 0) :
  Calls Tryz.prog 147 #[.agg #[.slice ra rs.length rc, .slice ga gs.length gc, .slice sa ss.length sc]] w fun e w' => e = .returned (.tuple #[]) ∧ Below w.heap.size w w' :=
 (jZ ra ga sa rc gc sc rs gs ss w ht).mono fun _ _ ⟨hc, hb⟩ => ⟨hc.elim (fun x => x.2) (fun x => absurd h x.1), hb⟩
theorem pL (w : World) (ht : IsTx w ra ga sa rs gs ss) (h : ¬ aF (ss.map (bN rs.length)) = 0) :
  Calls Tryz.prog 147 #[.agg #[.slice ra rs.length rc, .slice ga gs.length gc, .slice sa ss.length sc]] w fun e w' => e = .panicked [{ v := .iface 30 (.int .i64 (aF (ss.map (bN rs.length)))), recovered := false }] ∧ Below w.heap.size w w' :=
 (jZ ra ga sa rc gc sc rs gs ss w ht).mono fun _ _ ⟨hc, hb⟩ => ⟨hc.elim (fun x => absurd x.1 h) (fun x => x.2), hb⟩
set_option maxHeartbeats 400000 in
theorem chk1_many (p : Nat) (w : World) (h0 : w.cell? ⟨p, 0, none⟩ = some (.slice ra rs.length rc)) (h1 : w.cell? ⟨p, 1, none⟩ = some (.slice ga gs.length gc)) (h2 : w.cell? ⟨p, 2, none⟩ = some (.slice sa ss.length sc)) (ht : IsTx w ra ga sa rs gs ss) (hm : ¬ bQ rs.length gs.length ss.length = 0) :
  Calls Tryz.prog 144 #[.pointer (some ⟨p, 0, none⟩)] w fun e w' => e = .panicked [{ v := .iface 30 (.int .i64 (2)), recovered := false }] ∧ Below w.heap.size w w' := by
 have HM : Hid (¬ bQ rs.length gs.length ss.length = 0) := hm
 clear hm
 go_enter Tryz.func144, Tryz.ntmps144
 go_wp2_with fail
 refine (oU ra ga sa rc gc sc rs gs ss _ ht HM.out).mono ?_
 rintro e w1 ⟨rfl, hb1⟩
 go_wp2
 exact ⟨rfl, rfl, hb1⟩
set_option maxHeartbeats 400000 in
theorem chk1_keys (p : Nat) (w : World) (h0 : w.cell? ⟨p, 0, none⟩ = some (.slice ra rs.length rc)) (h1 : w.cell? ⟨p, 1, none⟩ = some (.slice ga gs.length gc)) (h2 : w.cell? ⟨p, 2, none⟩ = some (.slice sa ss.length sc)) (ht : IsTx w ra ga sa rs gs ss) (hm : bQ rs.length gs.length ss.length = 0) (hk : ¬ dU rs ss = 0) :
  Calls Tryz.prog 144 #[.pointer (some ⟨p, 0, none⟩)] w fun e w' => e = .panicked [{ v := .iface 30 (.int .i64 (dU rs ss)), recovered := false }] ∧ Below w.heap.size w w' := by
 have HM : Hid (bQ rs.length gs.length ss.length = 0) := hm
 have HK : Hid (¬ dU rs ss = 0) := hk
 clear hm hk
 go_enter Tryz.func144, Tryz.ntmps144
 go_wp2_with fail
 refine (pM ra ga sa rc gc sc rs gs ss _ ht HM.out HK.out).mono ?_
 rintro e w1 ⟨rfl, hb1⟩
 go_wp2
 exact ⟨rfl, rfl, hb1⟩
set_option maxHeartbeats 400000 in
theorem chk1_guards (p : Nat) (w : World) (h0 : w.cell? ⟨p, 0, none⟩ = some (.slice ra rs.length rc)) (h1 : w.cell? ⟨p, 1, none⟩ = some (.slice ga gs.length gc)) (h2 : w.cell? ⟨p, 2, none⟩ = some (.slice sa ss.length sc)) (ht : IsTx w ra ga sa rs gs ss) (hm : bQ rs.length gs.length ss.length = 0) (hk : dU rs ss = 0) (hg : ¬ aF (gs.map (bM rs.length)) = 0) :
  Calls Tryz.prog 144 #[.pointer (some ⟨p, 0, none⟩)] w fun e w' => e = .panicked [{ v := .iface 30 (.int .i64 (aF (gs.map (bM rs.length)))), recovered := false }] ∧ Below w.heap.size w w' := by
 have HM : Hid (bQ rs.length gs.length ss.length = 0) := hm
 have HK : Hid (dU rs ss = 0) := hk
 have HG : Hid (¬ aF (gs.map (bM rs.length)) = 0) := hg
 clear hm hk hg
 go_enter Tryz.func144, Tryz.ntmps144
 go_wp2_with fail
 refine (iU ra ga sa rc gc sc rs gs ss _ ht HM.out HK.out).mono ?_
 rintro e w1 ⟨rfl, hb1⟩
 have B1 := hb1
 have k00 := aA B1 h0
 have k01 := aA B1 h1
 have k02 := aA B1 h2
 go_wp2_with fail
 refine (nJ ra ga sa rc gc sc rs gs ss _ (ht.below B1) HG.out).mono ?_
 rintro e w2 ⟨rfl, hb2⟩
 go_wp2
 exact ⟨rfl, rfl, aC B1 hb2⟩
set_option maxHeartbeats 400000 in
theorem chk1_sets (p : Nat) (w : World) (h0 : w.cell? ⟨p, 0, none⟩ = some (.slice ra rs.length rc)) (h1 : w.cell? ⟨p, 1, none⟩ = some (.slice ga gs.length gc)) (h2 : w.cell? ⟨p, 2, none⟩ = some (.slice sa ss.length sc)) (ht : IsTx w ra ga sa rs gs ss) (hm : bQ rs.length gs.length ss.length = 0) (hk : dU rs ss = 0) (hg : aF (gs.map (bM rs.length)) = 0) (hs : ¬ aF (ss.map (bN rs.length)) = 0) :
  Calls Tryz.prog 144 #[.pointer (some ⟨p, 0, none⟩)] w fun e w' => e = .panicked [{ v := .iface 30 (.int .i64 (aF (ss.map (bN rs.length)))), recovered := false }] ∧ Below w.heap.size w w' := by
 have HM : Hid (bQ rs.length gs.length ss.length = 0) := hm
 have HK : Hid (dU rs ss = 0) := hk
 have HG : Hid (aF (gs.map (bM rs.length)) = 0) := hg
 have HS : Hid (¬ aF (ss.map (bN rs.length)) = 0) := hs
 clear hm hk hg hs
 go_enter Tryz.func144, Tryz.ntmps144
 go_wp2_with fail
 refine (iU ra ga sa rc gc sc rs gs ss _ ht HM.out HK.out).mono ?_
 rintro e w1 ⟨rfl, hb1⟩
 have B1 := hb1
 have k00 := aA B1 h0
 have k01 := aA B1 h1
 have k02 := aA B1 h2
 go_wp2_with fail
 refine (jL ra ga sa rc gc sc rs gs ss _ (ht.below B1) HG.out).mono ?_
 rintro e w2 ⟨rfl, hb2⟩
 have B2 := aC B1 hb2
 have k10 := aA B2 h0
 have k11 := aA B2 h1
 have k12 := aA B2 h2
 go_wp2_with fail
 refine (pL ra ga sa rc gc sc rs gs ss _ (ht.below B2) HS.out).mono ?_
 rintro e w3 ⟨rfl, hb3⟩
 go_wp2
 exact ⟨rfl, rfl, aC B2 hb3⟩
set_option maxHeartbeats 400000 in
theorem chk1_ok (p : Nat) (w : World) (h0 : w.cell? ⟨p, 0, none⟩ = some (.slice ra rs.length rc)) (h1 : w.cell? ⟨p, 1, none⟩ = some (.slice ga gs.length gc)) (h2 : w.cell? ⟨p, 2, none⟩ = some (.slice sa ss.length sc)) (ht : IsTx w ra ga sa rs gs ss) (hm : bQ rs.length gs.length ss.length = 0) (hk : dU rs ss = 0) (hg : aF (gs.map (bM rs.length)) = 0) (hs : aF (ss.map (bN rs.length)) = 0) :
  Calls Tryz.prog 144 #[.pointer (some ⟨p, 0, none⟩)] w fun e w' => e = .returned (.bool true) ∧ Below w.heap.size w w' := by
 have HM : Hid (bQ rs.length gs.length ss.length = 0) := hm
 have HK : Hid (dU rs ss = 0) := hk
 have HG : Hid (aF (gs.map (bM rs.length)) = 0) := hg
 have HS : Hid (aF (ss.map (bN rs.length)) = 0) := hs
 clear hm hk hg hs
 go_enter Tryz.func144, Tryz.ntmps144
 go_wp2_with fail
 refine (iU ra ga sa rc gc sc rs gs ss _ ht HM.out HK.out).mono ?_
 rintro e w1 ⟨rfl, hb1⟩
 have B1 := hb1
 have k00 := aA B1 h0
 have k01 := aA B1 h1
 have k02 := aA B1 h2
 go_wp2_with fail
 refine (jL ra ga sa rc gc sc rs gs ss _ (ht.below B1) HG.out).mono ?_
 rintro e w2 ⟨rfl, hb2⟩
 have B2 := aC B1 hb2
 have k10 := aA B2 h0
 have k11 := aA B2 h1
 have k12 := aA B2 h2
 go_wp2_with fail
 refine (checkSets_ok ra ga sa rc gc sc rs gs ss _ (ht.below B2) HS.out).mono ?_
 rintro e w3 ⟨rfl, hb3⟩
 have B3 := aC B2 hb3
 go_wp2
 go_ret
 exact ⟨rfl, B3⟩
theorem jK (b : Bool) (x : Int) (w : World)
  (h : Calls Tryz.prog 47 #[.func (.func 144) #[] #[.pointer (some ⟨w.heap.size, 0, none⟩)]] (w.alloc (.cells #[.slice ra rs.length rc, .slice ga gs.length gc, .slice sa ss.length sc] 79)) fun e' w' => e' = .returned (.tuple #[.bool b, .int .i64 x]) ∧ Below (w.alloc (.cells #[.slice ra rs.length rc, .slice ga gs.length gc, .slice sa ss.length sc] 79)).heap.size (w.alloc (.cells #[.slice ra rs.length rc, .slice ga gs.length gc, .slice sa ss.length sc] 79)) w') :
  Calls Tryz.prog 119 #[.agg #[.slice ra rs.length rc, .slice ga gs.length gc, .slice sa ss.length sc]] w fun e' w' => e' = .returned (.int .i64 x) ∧ Below w.heap.size w w' := by
 have hmf : ∀ (fn : Fn) (first cap : Array Value) (w : World), (Instr.makeFunc fn first cap).run Tryz.prog w = .ok (.func fn first cap) w := fun _ _ _ _ => rfl
 have H : Hid (Calls Tryz.prog 47 #[.func (.func 144) #[] #[.pointer (some ⟨w.heap.size, 0, none⟩)]] (w.alloc (.cells #[.slice ra rs.length rc, .slice ga gs.length gc, .slice sa ss.length sc] 79)) fun e' w' => e' = .returned (.tuple #[.bool b, .int .i64 x]) ∧ Below (w.alloc (.cells #[.slice ra rs.length rc, .slice ga gs.length gc, .slice sa ss.length sc] 79)).heap.size (w.alloc (.cells #[.slice ra rs.length rc, .slice ga gs.length gc, .slice sa ss.length sc] 79)) w') := h
 clear h
 go_enter Tryz.func119, Tryz.ntmps119
 go_wp2_with fail
 refine H.out.mono ?_
 clear H
 rintro e w1 ⟨rfl, hb⟩
 have Hb := aC (aB (Below.refl w.heap.size w) _) hb
 clear hb
 go_wp2
 go_ret
 exact ⟨rfl, Hb⟩
theorem oS (h : ¬ bQ rs.length gs.length ss.length = 0) : bF rs gs ss = 2 := by
 unfold bF; rw [aF, if_neg h]; exact many_two _ _ _ h
theorem chk_keys (hm : bQ rs.length gs.length ss.length = 0) (h : ¬ dU rs ss = 0) : bF rs gs ss = dU rs ss := by
 unfold bF; rw [aF, if_pos hm, aF, if_neg h]
theorem chk_guards (hm : bQ rs.length gs.length ss.length = 0) (hk : dU rs ss = 0) (h : ¬ aF (gs.map (bM rs.length)) = 0) : bF rs gs ss = aF (gs.map (bM rs.length)) := by
 unfold bF; rw [aF, if_pos hm, aF, if_pos hk, aF, if_neg h]
theorem chk_sets (hm : bQ rs.length gs.length ss.length = 0) (hk : dU rs ss = 0) (hg : aF (gs.map (bM rs.length)) = 0) (h : ¬ aF (ss.map (bN rs.length)) = 0) : bF rs gs ss = aF (ss.map (bN rs.length)) := by
 unfold bF; rw [aF, if_pos hm, aF, if_pos hk, aF, if_pos hg, aF, if_neg h]
theorem chk_ok (hm : bQ rs.length gs.length ss.length = 0) (hk : dU rs ss = 0) (hg : aF (gs.map (bM rs.length)) = 0) (h : aF (ss.map (bN rs.length)) = 0) : bF rs gs ss = 0 := by
 unfold bF; rw [aF, if_pos hm, aF, if_pos hk, aF, if_pos hg, aF, if_pos h]; rfl
theorem box_cells (w : World) (o : Obj) : ((w.alloc (.cells #[.slice ra rs.length rc, .slice ga gs.length gc, .slice sa ss.length sc] 79)).alloc o).cell? ⟨w.heap.size, 0, none⟩ = some (.slice ra rs.length rc) ∧ ((w.alloc (.cells #[.slice ra rs.length rc, .slice ga gs.length gc, .slice sa ss.length sc] 79)).alloc o).cell? ⟨w.heap.size, 1, none⟩ = some (.slice ga gs.length gc) ∧ ((w.alloc (.cells #[.slice ra rs.length rc, .slice ga gs.length gc, .slice sa ss.length sc] 79)).alloc o).cell? ⟨w.heap.size, 2, none⟩ = some (.slice sa ss.length sc) := by
 refine ⟨?_, ?_, ?_⟩ <;> (rw [World.cell?_alloc_lt _ _ _ (by simp)]; simp)
theorem dJ (w : World) (ht : IsTx w ra ga sa rs gs ss) :
  Calls Tryz.prog 119 #[.agg #[.slice ra rs.length rc, .slice ga gs.length gc, .slice sa ss.length sc]] w fun e' w' => e' = .returned (.int .i64 (bF rs gs ss)) ∧ Below w.heap.size w w' := by
 obtain ⟨h0, h1, h2⟩ := box_cells ra ga sa rc gc sc rs gs ss w (.cells #[.int .i64 0] 30)
 have ht' : IsTx ((w.alloc (.cells #[.slice ra rs.length rc, .slice ga gs.length gc, .slice sa ss.length sc] 79)).alloc (.cells #[.int .i64 0] 30)) ra ga sa rs gs ss := ht.below (aB (aB (Below.refl _ _) _) _)
 by_cases hm : bQ rs.length gs.length ss.length = 0
 ·by_cases hk : dU rs ss = 0
  ·by_cases hg : aF (gs.map (bM rs.length)) = 0
   ·by_cases hs : aF (ss.map (bN rs.length)) = 0
    ·rw [chk_ok rs gs ss hm hk hg hs]
     exact jK ra ga sa rc gc sc rs gs ss true 0 w (caught_c_ret _ _ _ ((chk1_ok ra ga sa rc gc sc rs gs ss _ _ h0 h1 h2 ht' hm hk hg hs).mono (fun _ _ h => ⟨h.1, by simpa using h.2⟩)))
    ·rw [chk_sets rs gs ss hm hk hg hs]
     exact jK ra ga sa rc gc sc rs gs ss false _ w (gH _ _ _ ((chk1_sets ra ga sa rc gc sc rs gs ss _ _ h0 h1 h2 ht' hm hk hg hs).mono (fun _ _ h => ⟨h.1, by simpa using h.2⟩)))
   ·rw [chk_guards rs gs ss hm hk hg]
    exact jK ra ga sa rc gc sc rs gs ss false _ w (gH _ _ _ ((chk1_guards ra ga sa rc gc sc rs gs ss _ _ h0 h1 h2 ht' hm hk hg).mono (fun _ _ h => ⟨h.1, by simpa using h.2⟩)))
  ·rw [chk_keys rs gs ss hm hk]
   exact jK ra ga sa rc gc sc rs gs ss false _ w (gH _ _ _ ((chk1_keys ra ga sa rc gc sc rs gs ss _ _ h0 h1 h2 ht' hm hk).mono (fun _ _ h => ⟨h.1, by simpa using h.2⟩)))
 ·rw [oS rs gs ss hm]
  exact jK ra ga sa rc gc sc rs gs ss false _ w (gH _ _ _ ((chk1_many ra ga sa rc gc sc rs gs ss _ _ h0 h1 h2 ht' hm).mono (fun _ _ h => ⟨h.1, by simpa using h.2⟩)))
end Go.Proofs.YtebjkmknhpgemaaGreat
namespace Go.Proofs.YtebjkmknhpgemaaGreat
open Go.RowKit
theorem mH (v e : Int) (he : e = 0) (w : World) : Calls Tryz.prog 139 #[.int .i64 v, .int .i64 e] w fun e' w' => e' = .returned (.int .i64 v) ∧ w' = w.alloc (.cells #[.int .i64 0] 30) := by
 subst he
 go_enter Tryz.func139, Tryz.ntmps139
 go_wp2_with fail
 refine (aV [0] _ 1 _ (by simp) rfl (dQ _ _ _ rfl)).mono ?_
 rintro e w' ⟨rfl, rfl⟩
 go_wp2
 go_ret
 exact ⟨rfl, rfl⟩
theorem oP (v : Bool) (e : Int) (he : e = 0) (w : World) : Calls Tryz.prog 80 #[.bool v, .int .i64 e] w fun e' w' => e' = .returned (.bool v) ∧ w' = w.alloc (.cells #[.int .i64 0] 30) := by
 subst he
 go_enter Tryz.func80, Tryz.ntmps80
 go_wp2_with fail
 refine (aV [0] _ 1 _ (by simp) rfl (dQ _ _ _ rfl)).mono ?_
 rintro e w' ⟨rfl, rfl⟩
 go_wp2
 go_ret
 exact ⟨rfl, rfl⟩
theorem eI (k n : Int) (zs : List Int) (za : Option Addr) (zc : Nat) (w : World) (hl : zs.length ≤ maxLen) (hz : IsInts w za zs) (h0 : aW k n zs.length = 0) :
  Calls Tryz.prog 159 #[.agg #[.int .i64 k, .int .i64 n], .slice za zs.length zc] w fun e' w' => e' = .returned (.int .i64 (cF k n zs)) ∧ Below w.heap.size w w' := by
 have HZ : Hid (IsInts w za zs) := hz
 have H0 : Hid (aW k n zs.length = 0) := h0
 clear hz h0
 go_enter Tryz.func159, Tryz.ntmps159
 go_wp2_with fail
 refine (value_any k n zs za zc _ hl (HZ.out.below (aB (Below.refl _ _) _))).mono ?_
 rintro e w' ⟨rfl, rfl⟩
 go_wp2_with fail
 refine (mH _ _ H0.out _).mono ?_
 rintro e w' ⟨rfl, rfl⟩
 go_wp2
 go_ret
 refine ⟨rfl, ?_⟩
 repeat (first | assumption | exact Below.refl _ _ | refine aD ?_ | refine aB ?_ _ | refine aC ?_ (by assumption))
def cX (zs : List Int) (g : Gd) : Bool := eL g.k (cF g.ak g.an zs) (cF g.bk g.bn zs)
def cC (zs : List Int) : List Gd → Bool
 | [] => true
 | g :: t => if cX zs g then cC zs t else false
theorem allG_step (zs : List Int) (l : List Gd) (k : Nat) (h : k < l.length) : cC zs (l.drop k) = if cX zs (l.getD k g0) then cC zs (l.drop (k + 1)) else false := by
 rw [fC l k g0 h]; rfl
theorem mJ {n : Nat} {k ak an bk bn : Int} (h : bM n ⟨k, ak, an, bk, bn⟩ = 0) : dH k = 0 ∧ aW ak an n = 0 ∧ aW bk bn n = 0 := by
 have := bJ _ h
 exact ⟨by simpa using this 0, by simpa using this 1, by simpa using this 2⟩
theorem lY {n : Nat} {key k ak an bk bn : Int} (h : bN n ⟨key, k, ak, an, bk, bn⟩ = 0) : cQ k = 0 ∧ aW ak an n = 0 ∧ aW bk bn n = 0 := by
 have := bJ _ h
 exact ⟨by simpa using this 0, by simpa using this 1, by simpa using this 2⟩
theorem fS {α : Type} (f : α → Int) (l : List α) (d : α) (h : aF (l.map f) = 0) (k : Nat) (hk : k < l.length) : f (l.getD k d) = 0 := by
 have := bJ _ h k
 rw [← this]
 simp [List.getD, hk]
variable (ra ga sa : Option Addr) (rc gc sc : Nat) (rs : List Int) (gs : List Gd) (ss : List St) (za : Option Addr) (zc : Nat) (zs : List Int)
set_option maxHeartbeats 2000000 in
theorem jW (w : World) (ht : IsTx w ra ga sa rs gs ss) (hz : IsInts w za zs) (hzl0 : zs.length ≤ maxLen) (hlen : zs.length = rs.length) (hg0 : aF (gs.map (bM rs.length)) = 0) :
  Calls Tryz.prog 148 #[.agg #[.slice ra rs.length rc, .slice ga gs.length gc, .slice sa ss.length sc], .slice za zs.length zc] w fun e w' => e = .returned (.bool (cC zs gs)) ∧ Below w.heap.size w w' := by
 have hzl : Hid (zs.length ≤ maxLen) := hzl0
 have HZ : Hid (IsInts w za zs) := hz
 have HG : Hid (aF (gs.map (bM rs.length)) = 0) := hg0
 have HL : Hid (zs.length = rs.length) := hlen
 obtain ⟨_, hgs, _, _, hl, _⟩ := ht
 unfold maxLen at hl
 clear hzl0 hz hg0 hlen
 go_enter Tryz.func148, Tryz.ntmps148
 go_wp2
 go_loopw [6, 10] (fun _ i wr => ∃ k : Nat, k ≤ gs.length ∧ i = .int .i64 k ∧ Hid (cC zs gs = cC zs (gs.drop k)) ∧ Below (w.heap.size + 1) (w.alloc (.cells #[.slice ra rs.length rc, .slice ga gs.length gc, .slice sa ss.length sc] 79)) wr) (fun _ i _ => gs.length - (intOf i).toNat)
 case atStart => exact ⟨0, Nat.zero_le _, rfl, rfl, Below.refl _ _⟩
 case round =>
  obtain ⟨k', hk, rfl, hno, hnx⟩ := hrel
  have hsz : w.heap.size + 1 ≤ wr.heap.size := by have := hnx.size; simpa using this
  have hnx' : Below w.heap.size w wr := (aB (Below.refl _ _) _).trans (hnx.mono (by omega))
  by_cases hlt : k' < gs.length
  ·obtain ⟨b, off, rfl, hb, c0, c1, c2, c3, c4⟩ := hgs k' hlt
   have up : ∀ j u, w.cell? ⟨b, j, none⟩ = some u → wr.cell? ⟨b, j, none⟩ = some u := fun j u h =>
    (hnx.cell (p := ⟨b, j, none⟩) (Nat.lt_succ_of_lt hb)).trans ((World.cell?_alloc_lt _ _ ⟨b, j, none⟩ hb).trans h)
   have d0 := up _ _ c0
   have d1 := up _ _ c1
   have d2 := up _ _ c2
   have d3 := up _ _ c3
   have d4 := up _ _ c4
   have hs : Hid (cC zs gs = if cX zs (gs.getD k' g0) then cC zs (gs.drop (k' + 1)) else false) := hno.out.trans (allG_step zs gs k' hlt)
   have hE := fS _ gs g0 HG.out k' hlt
   clear c0 c1 c2 c3 c4 up hgs hno
   generalize (gs.getD k' g0) = s at *
   obtain ⟨k, ak, an, bk, bn⟩ := s
   simp only at d0 d1 d2 d3 d4
   obtain ⟨xA, xB, xC⟩ := mJ hE
   rw [← HL.out] at xB xC
   have hA : Hid (dH k = 0) := xA
   have hB : Hid (aW ak an zs.length = 0) := xB
   have hC : Hid (aW bk bn zs.length = 0) := xC
   clear hE xA xB xC
   by_cases hH : cX zs ⟨k, ak, an, bk, bn⟩ = true
   ·have HN : Hid (cC zs gs = cC zs (gs.drop (k' + 1))) := hs.out.trans (if_pos hH)
    have HV : Hid (eL k (cF ak an zs) (cF bk bn zs) = true) := hH
    clear hs hH
    go_wp2_with fail
    have hWr : Below wr.heap.size wr (wr.alloc (.cells #[.int .i64 k, .int .i64 ak, .int .i64 an, .int .i64 bk, .int .i64 bn] 165)) := aB (Below.refl _ _) _
    have hW : Hid (Below w.heap.size w (wr.alloc (.cells #[.int .i64 k, .int .i64 ak, .int .i64 an, .int .i64 bk, .int .i64 bn] 165))) := aC hnx' hWr
    have hIW : Hid (IsInts (wr.alloc (.cells #[.int .i64 k, .int .i64 ak, .int .i64 an, .int .i64 bk, .int .i64 bn] 165)) za zs) := HZ.out.below hW.out
    have y0 : (wr.alloc (.cells #[.int .i64 k, .int .i64 ak, .int .i64 an, .int .i64 bk, .int .i64 bn] 165)).cell? ⟨wr.heap.size, 0, none⟩ = some (.int .i64 k) := by simp
    have y1 : (wr.alloc (.cells #[.int .i64 k, .int .i64 ak, .int .i64 an, .int .i64 bk, .int .i64 bn] 165)).cell? ⟨wr.heap.size, 1, none⟩ = some (.int .i64 ak) := by simp
    have y2 : (wr.alloc (.cells #[.int .i64 k, .int .i64 ak, .int .i64 an, .int .i64 bk, .int .i64 bn] 165)).cell? ⟨wr.heap.size, 2, none⟩ = some (.int .i64 an) := by simp
    have y3 : (wr.alloc (.cells #[.int .i64 k, .int .i64 ak, .int .i64 an, .int .i64 bk, .int .i64 bn] 165)).cell? ⟨wr.heap.size, 3, none⟩ = some (.int .i64 bk) := by simp
    have y4 : (wr.alloc (.cells #[.int .i64 k, .int .i64 ak, .int .i64 an, .int .i64 bk, .int .i64 bn] 165)).cell? ⟨wr.heap.size, 4, none⟩ = some (.int .i64 bn) := by simp
    have RB : Hid (Below (w.heap.size + 1) (w.alloc _) (wr.alloc (.cells #[.int .i64 k, .int .i64 ak, .int .i64 an, .int .i64 bk, .int .i64 bn] 165))) := hnx.trans (hWr.mono hsz)
    have HWr : Hid (Below wr.heap.size wr (wr.alloc (.cells #[.int .i64 k, .int .i64 ak, .int .i64 an, .int .i64 bk, .int .i64 bn] 165))) := hWr
    generalize wr.alloc (.cells #[.int .i64 k, .int .i64 ak, .int .i64 an, .int .i64 bk, .int .i64 bn] 165) = W at *
    generalize hG : wr.heap.size = G at *
    clear hWr d0 d1 d2 d3 d4 hnx
    go_region_held3 (fun w' => Below W.heap.size W w' ∧ w'.cell? ⟨G, 0, none⟩ = some (.int .i64 k) ∧ w'.cell? ⟨G, 1, none⟩ = some (.int .i64 ak) ∧ w'.cell? ⟨G, 2, none⟩ = some (.int .i64 an) ∧ w'.cell? ⟨G, 3, none⟩ = some (.int .i64 bk) ∧ w'.cell? ⟨G, 4, none⟩ = some (.int .i64 bn)) ((go_split_ands; refine ext5 ?_ y0 y1 y2 y3 y4; repeat (first | assumption | exact Below.refl _ _ | refine aD ?_ | refine aB ?_ _ | refine aC ?_ (by assumption))))
     (first
      | (go_at_call_of 159 (Value.agg #[.int .i64 ak, .int .i64 an]); refine (eI ak an zs za zc _ hzl.out ?_ hB.out).mono ?_; (refine hIW.out.below ?_; go_split_ands; repeat (first | assumption | exact Below.refl _ _ | refine aD ?_ | refine aB ?_ _ | refine aC ?_ (by assumption))); rintro e w' ⟨rfl, hbx⟩)
      | (go_at_call_of 159 (Value.agg #[.int .i64 bk, .int .i64 bn]); refine (eI bk bn zs za zc _ hzl.out ?_ hC.out).mono ?_; (refine hIW.out.below ?_; go_split_ands; repeat (first | assumption | exact Below.refl _ _ | refine aD ?_ | refine aB ?_ _ | refine aC ?_ (by assumption))); rintro e w' ⟨rfl, hbx⟩)
      | (go_at_call 156; refine (jR k (cF ak an zs) (cF bk bn zs) _).mono ?_; rintro e w' ⟨rfl, hbx⟩)
      | (go_at_call 80; refine (oP _ _ hA.out _).mono ?_; rintro e w' ⟨rfl, rfl⟩))
    rw [HV.out]
    go_wp2
    go_roundw
    case rel =>
     refine ⟨k' + 1, by omega, by go_num, HN, RB.out.trans (Below.mono (B := W.heap.size) ?_ (Nat.le_trans hsz (by rw [← hG]; exact HWr.out.size)))⟩
     go_split_ands
     repeat (first | assumption | exact Below.refl _ _ | refine aD ?_ | refine aB ?_ _ | refine aC ?_ (by assumption))
    case measure => simp [intOf]; omega
   ·have HN : Hid (cC zs gs = false) := hs.out.trans (if_neg hH)
    have hV : eL k (cF ak an zs) (cF bk bn zs) = false := by simpa [cX] using hH
    have HV : Hid (eL k (cF ak an zs) (cF bk bn zs) = false) := hV
    clear hs hH hV
    go_wp2_with fail
    have hWr : Below wr.heap.size wr (wr.alloc (.cells #[.int .i64 k, .int .i64 ak, .int .i64 an, .int .i64 bk, .int .i64 bn] 165)) := aB (Below.refl _ _) _
    have hW : Hid (Below w.heap.size w (wr.alloc (.cells #[.int .i64 k, .int .i64 ak, .int .i64 an, .int .i64 bk, .int .i64 bn] 165))) := aC hnx' hWr
    have hIW : Hid (IsInts (wr.alloc (.cells #[.int .i64 k, .int .i64 ak, .int .i64 an, .int .i64 bk, .int .i64 bn] 165)) za zs) := HZ.out.below hW.out
    have y0 : (wr.alloc (.cells #[.int .i64 k, .int .i64 ak, .int .i64 an, .int .i64 bk, .int .i64 bn] 165)).cell? ⟨wr.heap.size, 0, none⟩ = some (.int .i64 k) := by simp
    have y1 : (wr.alloc (.cells #[.int .i64 k, .int .i64 ak, .int .i64 an, .int .i64 bk, .int .i64 bn] 165)).cell? ⟨wr.heap.size, 1, none⟩ = some (.int .i64 ak) := by simp
    have y2 : (wr.alloc (.cells #[.int .i64 k, .int .i64 ak, .int .i64 an, .int .i64 bk, .int .i64 bn] 165)).cell? ⟨wr.heap.size, 2, none⟩ = some (.int .i64 an) := by simp
    have y3 : (wr.alloc (.cells #[.int .i64 k, .int .i64 ak, .int .i64 an, .int .i64 bk, .int .i64 bn] 165)).cell? ⟨wr.heap.size, 3, none⟩ = some (.int .i64 bk) := by simp
    have y4 : (wr.alloc (.cells #[.int .i64 k, .int .i64 ak, .int .i64 an, .int .i64 bk, .int .i64 bn] 165)).cell? ⟨wr.heap.size, 4, none⟩ = some (.int .i64 bn) := by simp
    have RB : Hid (Below (w.heap.size + 1) (w.alloc _) (wr.alloc (.cells #[.int .i64 k, .int .i64 ak, .int .i64 an, .int .i64 bk, .int .i64 bn] 165))) := hnx.trans (hWr.mono hsz)
    have HWr : Hid (Below wr.heap.size wr (wr.alloc (.cells #[.int .i64 k, .int .i64 ak, .int .i64 an, .int .i64 bk, .int .i64 bn] 165))) := hWr
    generalize wr.alloc (.cells #[.int .i64 k, .int .i64 ak, .int .i64 an, .int .i64 bk, .int .i64 bn] 165) = W at *
    generalize hG : wr.heap.size = G at *
    clear hWr d0 d1 d2 d3 d4 hnx
    go_region_held3 (fun w' => Below W.heap.size W w' ∧ w'.cell? ⟨G, 0, none⟩ = some (.int .i64 k) ∧ w'.cell? ⟨G, 1, none⟩ = some (.int .i64 ak) ∧ w'.cell? ⟨G, 2, none⟩ = some (.int .i64 an) ∧ w'.cell? ⟨G, 3, none⟩ = some (.int .i64 bk) ∧ w'.cell? ⟨G, 4, none⟩ = some (.int .i64 bn)) ((go_split_ands; refine ext5 ?_ y0 y1 y2 y3 y4; repeat (first | assumption | exact Below.refl _ _ | refine aD ?_ | refine aB ?_ _ | refine aC ?_ (by assumption))))
     (first
      | (go_at_call_of 159 (Value.agg #[.int .i64 ak, .int .i64 an]); refine (eI ak an zs za zc _ hzl.out ?_ hB.out).mono ?_; (refine hIW.out.below ?_; go_split_ands; repeat (first | assumption | exact Below.refl _ _ | refine aD ?_ | refine aB ?_ _ | refine aC ?_ (by assumption))); rintro e w' ⟨rfl, hbx⟩)
      | (go_at_call_of 159 (Value.agg #[.int .i64 bk, .int .i64 bn]); refine (eI bk bn zs za zc _ hzl.out ?_ hC.out).mono ?_; (refine hIW.out.below ?_; go_split_ands; repeat (first | assumption | exact Below.refl _ _ | refine aD ?_ | refine aB ?_ _ | refine aC ?_ (by assumption))); rintro e w' ⟨rfl, hbx⟩)
      | (go_at_call 156; refine (jR k (cF ak an zs) (cF bk bn zs) _).mono ?_; rintro e w' ⟨rfl, hbx⟩)
      | (go_at_call 80; refine (oP _ _ hA.out _).mono ?_; rintro e w' ⟨rfl, rfl⟩))
    rw [HV.out]
    go_wp2
    go_ret
    refine ⟨by rw [HN.out]; rfl, aC hW.out ?_⟩
    go_split_ands
    repeat (first | assumption | exact Below.refl _ _ | refine aD ?_ | refine aB ?_ _ | refine aC ?_ (by assumption))
  ·have H' : Hid (cC zs gs = true) := by
    have h0 := hno.out
    rw [List.drop_of_length_le (by omega)] at h0
    exact h0
   clear hno hgs hnx
   go_wp2
   go_ret
   exact ⟨by rw [H'.out]; rfl, hnx'⟩
end Go.Proofs.YtebjkmknhpgemaaGreat
namespace Go.Proofs.YtebjkmknhpgemaaGreat
open Go.RowKit
def aZ (rs ks : List Int) : Nat → List (Int × Bool)
 | 0 => []
 | n + 1 => aZ rs ks n ++ (if (n : Int) ∈ ks ∨ (n : Int) ∈ rs then [((n : Int), decide ((n : Int) ∈ ks))] else [])
def dW (l : List (Int × Bool)) : List Value := l.flatMap fun p => [.int .i64 p.1, .bool p.2]
def lksOf (rs : List Int) (gs : List Gd) (ss : List St) : List (Int × Bool) := if bF rs gs ss = 0 then aZ rs (aI ss) 8 else []
theorem jE (rs ks : List Int) : ∀ n, (aZ rs ks n).length ≤ n
 | 0 => Nat.le_refl _
 | n + 1 => by
  have := jE rs ks n
  unfold aZ
  split <;> simp <;> omega
theorem fQ (l m : List (Int × Bool)) : dW (l ++ m) = dW l ++ dW m := by simp [dW]
theorem lkTo_set (rs ks : List Int) (n : Nat) (h : (n : Int) ∈ ks) : aZ rs ks (n + 1) = aZ rs ks n ++ [((n : Int), true)] := by
 rw [aZ, if_pos (.inl h)]; simp [h]
theorem pZ (rs ks : List Int) (n : Nat) (h : ¬ (n : Int) ∈ ks) (h' : (n : Int) ∈ rs) : aZ rs ks (n + 1) = aZ rs ks n ++ [((n : Int), false)] := by
 rw [aZ, if_pos (.inr h')]; simp [h]
theorem qA (rs ks : List Int) (n : Nat) (h : ¬ (n : Int) ∈ ks) (h' : ¬ (n : Int) ∈ rs) : aZ rs ks (n + 1) = aZ rs ks n := by
 rw [aZ, if_neg (by simp [h, h'])]; simp
def IsLks (w : World) (a : Option Addr) (l : List (Int × Bool)) : Prop :=
 ∀ i, i < l.length → ∃ b off, a = some ⟨b, off, none⟩ ∧ b < w.heap.size ∧ w.cell? ⟨b, off + i * 2, none⟩ = some (.int .i64 (l.getD i (0, false)).1) ∧ w.cell? ⟨b, off + i * 2 + 1, none⟩ = some (.bool (l.getD i (0, false)).2)
theorem IsLks.below {w w' : World} {a : Option Addr} {l : List (Int × Bool)} (h : IsLks w a l) (hb : Below w.heap.size w w') : IsLks w' a l := by
 intro i hi
 obtain ⟨b, off, ha, hlt, h0, h1⟩ := h i hi
 refine ⟨b, off, ha, Nat.lt_of_lt_of_le hlt hb.size, ?_, ?_⟩ <;> (rw [hb.cell hlt]; assumption)
theorem kO : ∀ (l : List (Int × Bool)) (i : Nat), i < l.length → (dW l)[i * 2]? = some (.int .i64 (l.getD i (0, false)).1) ∧ (dW l)[i * 2 + 1]? = some (.bool (l.getD i (0, false)).2)
 | [], i, h => by simp at h
 | p :: t, 0, _ => by simp [dW]
 | p :: t, i + 1, h => by
  have := kO t i (by simpa using h)
  have e : dW (p :: t) = Value.int .i64 p.1 :: Value.bool p.2 :: dW t := by simp [dW]
  rw [e]
  have e1 : (i + 1) * 2 = i * 2 + 1 + 1 := by omega
  rw [e1]
  simpa using this
theorem mW {w : World} {base : Nat} {v : Value} {n : Nat} {l : List (Int × Bool)} (h : w.ownsRow base 134 2 v n (dW l)) (hn : l.length = n) : ∃ a cap, v = .slice a l.length cap ∧ IsLks w a l := by
 rcases h.2 with ⟨rfl, h0⟩ | ⟨g, cap, cur, rfl, hb, hg, hnc, hcm, hcs, htake⟩
 ·refine ⟨none, 0, by rw [hn, h0], fun i hi => ?_⟩
  omega
 ·refine ⟨some ⟨g, 0, none⟩, cap, by rw [hn], fun i hi => ⟨g, 0, rfl, (Array.getElem?_eq_some_iff.1 hg).1, ?_, ?_⟩⟩
  ·rw [Nat.zero_add, h.cellAt (i * 2) (by omega)]
   exact (kO l i hi).1
  ·rw [Nat.zero_add, h.cellAt (i * 2 + 1) (by omega)]
   exact (kO l i hi).2
theorem nN (w : World) (x : Int) (y : Bool) (s : Nat) (hs : s = w.heap.size) : ∀ j u, [Value.int .i64 x, Value.bool y][j]? = some u → (w.alloc (.cells #[.int .i64 x, .bool y] 134)).cell? ((⟨s, 0, none⟩ : Addr).add j) = some u := by
 subst hs
 intro j u hj
 match j, hj with
 | 0, hj => simp at hj; subst hj; simp [Addr.add]
 | 1, hj => simp at hj; subst hj; simp [Addr.add]
theorem qW (x : Int) (y : Bool) : ∀ u ∈ [Value.int .i64 x, Value.bool y], u.oneCell' = true := by
 intro u hu
 simp at hu
 rcases hu with rfl | rfl <;> rfl
theorem Tryz.info134 : (Tryz.prog.info? 134).map (fun i => (i.zero, i.size, i.bytes)) = some (some (.agg #[.int .i64 0, .bool false]), 2, 16) := by kernel_rfl
variable (ra ga sa : Option Addr) (rc gc sc : Nat) (rs : List Int) (gs : List Gd) (ss : List St)
set_option maxHeartbeats 2000000 in
theorem locks_bad (w : World) (ht : IsTx w ra ga sa rs gs ss) (hc : ¬ bF rs gs ss = 0) :
  Calls Tryz.prog 97 #[.agg #[.slice ra rs.length rc, .slice ga gs.length gc, .slice sa ss.length sc]] w fun e w' => e = .returned (.tuple #[.slice none 0 0, .int .i64 (bF rs gs ss)]) ∧ Below w.heap.size w w' := by
 have hb : (bF rs gs ss != 0) = true := by simpa using hc
 clear hc
 go_enter Tryz.func97, Tryz.ntmps97
 go_wp2_with fail
 refine (dJ ra ga sa rc gc sc rs gs ss _ (ht.below (aB (Below.refl _ _) _))).mono ?_
 rintro e w1 ⟨rfl, hb1⟩
 have HB : Hid (Below w.heap.size w w1) := aC (aB (Below.refl _ _) _) hb1
 clear hb1 ht
 go_wp2
 go_ret2
 exact ⟨rfl, HB.out⟩
set_option maxHeartbeats 2000000 in
theorem locks_ok (w : World) (ht : IsTx w ra ga sa rs gs ss) (hc : bF rs gs ss = 0) (h3 : ss.length ≤ 3) :
  Calls Tryz.prog 97 #[.agg #[.slice ra rs.length rc, .slice ga gs.length gc, .slice sa ss.length sc]] w fun e w' => ∃ a cap, e = .returned (.tuple #[.slice a (aZ rs (aI ss) 8).length cap, .int .i64 0]) ∧ IsLks w' a (aZ rs (aI ss) 8) ∧ Below w.heap.size w w' := by
 obtain ⟨i0, hi, hz0, hz1, hz2⟩ := info_parts Tryz.info134
 have HT : Hid (IsTx w ra ga sa rs gs ss) := ht
 have HC : Hid (bF rs gs ss = 0) := hc
 have hkl : Hid ((aI ss).length ≤ maxLen) := by rw [cH]; exact ht.ls
 clear ht hc
 go_enter Tryz.func97, Tryz.ntmps97
 go_wp2_with fail
 refine (dJ ra ga sa rc gc sc rs gs ss _ (HT.out.below (aB (Below.refl _ _) _))).mono ?_
 rintro e w1 ⟨rfl, hb1⟩
 rw [HC.out]
 have x0 : w1.cell? ⟨w.heap.size, 0, none⟩ = some (.slice ra rs.length rc) := (hb1.cell (by simp)).trans (by simp)
 have x1 : w1.cell? ⟨w.heap.size, 1, none⟩ = some (.slice ga gs.length gc) := (hb1.cell (by simp)).trans (by simp)
 have x2 : w1.cell? ⟨w.heap.size, 2, none⟩ = some (.slice sa ss.length sc) := (hb1.cell (by simp)).trans (by simp)
 have B1 : Below w.heap.size w w1 := aC (aB (Below.refl _ _) _) hb1
 clear hb1 HC
 go_wp2_with fail
 refine (gT ra ga sa rc gc sc rs gs ss _ (HT.out.below B1) h3).mono ?_
 rintro e W ⟨ka, kc, rfl, hka, hbW⟩
 have y0 := aA hbW x0
 have hW : Hid (Below w.heap.size w W) := aC B1 hbW
 have hra : Hid (IsInts W ra rs) := HT.out.r.below hW.out
 have hlr : Hid (rs.length ≤ maxLen) := HT.out.lr
 have HKA : Hid (IsInts W ka (aI ss)) := hka
 have hq : w.heap.size < W.heap.size := World.block_lt_of_cell? W _ y0
 clear x0 x1 x2 B1 hbW HT hka
 generalize hB : W.heap.size = B at *
 go_wp2_with fail
 go_loopw [5, 7, 8, 16] (fun v _ _ i wr => ∃ k : Nat, k ≤ 8 ∧ i = .int .i64 k ∧ wr.ownsRow B 134 2 v (aZ rs (aI ss) k).length (dW (aZ rs (aI ss) k)) ∧ Below B W wr) (fun _ _ _ i _ => 8 - (intOf i).toNat)
 case atStart => exact ⟨0, Nat.zero_le _, rfl, World.ownsRow_nil _ _ _ _, Below.refl _ _⟩
 case round =>
  obtain ⟨k, hk, rfl, hown, hnx⟩ := hrel
  have hsz : B ≤ wr.heap.size := by have := hnx.size; omega
  have q0 : wr.cell? ⟨w.heap.size, 0, none⟩ = some (.slice ra rs.length rc) := (hnx.cell (p := ⟨w.heap.size, 0, none⟩) hq).trans y0
  have hll := jE rs (aI ss) k
  by_cases hlt : k < 8
  ·have hI1 : Hid (IsInts wr ka (aI ss)) := HKA.out.below (by rw [hB]; exact hnx)
   have hI2 : Hid (IsInts wr ra rs) := hra.out.below (by rw [hB]; exact hnx)
   by_cases m1 : (k : Int) ∈ aI ss
   ·have HS : Hid (aZ rs (aI ss) (k + 1) = aZ rs (aI ss) k ++ [((k : Int), true)]) := lkTo_set rs _ k m1
    have HD : Hid (decide ((k : Int) ∈ aI ss) = true) := decide_eq_true m1
    clear m1
    go_wp2_with fail
    refine (cE k (aI ss) ka kc _ hkl.out hI1.out).mono ?_
    rintro e w' ⟨rfl, rfl⟩
    rw [HD.out]
    go_wp2_with (first | (at_builtin; (refine wpList_append_own _ rfl _ _ 131 rfl B 134 i0 (.agg #[.int .i64 0, .bool false]) 2 16 Tryz.underlying131 hi hz0 hz1 hz2 rfl (by decide) _ _ _ rfl (hown.alloc _) _ 1 1 [.int .i64 k, .bool true] rfl rfl (nN _ _ _ _ (by simp)) (qW _ _) (by unfold maxLen; omega) (by omega) (by simp; omega) ?_); intro v' w1 hown' hgrow _) | go_in)
    have R : w1.ownsRow B 134 2 v' (aZ rs (aI ss) (k + 1)).length (dW (aZ rs (aI ss) (k + 1))) := by
     rw [HS.out, fQ, List.length_append]; exact hown'
    have RB := (hnx.alloc hsz _).grown hgrow (by simp; omega) (fun j hj => (hown.lt j hj).1)
    clear hown' hgrow hown hnx
    go_wp2
    go_roundw
    case rel => exact ⟨k + 1, by omega, by go_num, R, RB⟩
    case measure => simp [intOf]; omega
   ·have HD : Hid (decide ((k : Int) ∈ aI ss) = false) := decide_eq_false m1
    by_cases m2 : (k : Int) ∈ rs
    ·have HS : Hid (aZ rs (aI ss) (k + 1) = aZ rs (aI ss) k ++ [((k : Int), false)]) := pZ rs _ k m1 m2
     have HD2 : Hid (decide ((k : Int) ∈ rs) = true) := decide_eq_true m2
     clear m1 m2
     go_wp2_with fail
     refine (cE k (aI ss) ka kc _ hkl.out hI1.out).mono ?_
     rintro e w' ⟨rfl, rfl⟩
     rw [HD.out]
     go_wp2_with fail
     refine (cE k rs ra rc _ hlr.out hI2.out).mono ?_
     rintro e w' ⟨rfl, rfl⟩
     rw [HD2.out]
     go_wp2_with (first | (at_builtin; (refine wpList_append_own _ rfl _ _ 131 rfl B 134 i0 (.agg #[.int .i64 0, .bool false]) 2 16 Tryz.underlying131 hi hz0 hz1 hz2 rfl (by decide) _ _ _ rfl (hown.alloc _) _ 1 1 [.int .i64 k, .bool false] rfl rfl (nN _ _ _ _ (by simp)) (qW _ _) (by unfold maxLen; omega) (by omega) (by simp; omega) ?_); intro v' w1 hown' hgrow _) | go_in)
     have R : w1.ownsRow B 134 2 v' (aZ rs (aI ss) (k + 1)).length (dW (aZ rs (aI ss) (k + 1))) := by
      rw [HS.out, fQ, List.length_append]; exact hown'
     have RB := (hnx.alloc hsz _).grown hgrow (by simp; omega) (fun j hj => (hown.lt j hj).1)
     clear hown' hgrow hown hnx
     go_wp2
     go_roundw
     case rel => exact ⟨k + 1, by omega, by go_num, R, RB⟩
     case measure => simp [intOf]; omega
    ·have HS : Hid (aZ rs (aI ss) (k + 1) = aZ rs (aI ss) k) := qA rs _ k m1 m2
     have HD2 : Hid (decide ((k : Int) ∈ rs) = false) := decide_eq_false m2
     clear m1 m2
     go_wp2_with fail
     refine (cE k (aI ss) ka kc _ hkl.out hI1.out).mono ?_
     rintro e w' ⟨rfl, rfl⟩
     rw [HD.out]
     go_wp2_with fail
     refine (cE k rs ra rc _ hlr.out hI2.out).mono ?_
     rintro e w' ⟨rfl, rfl⟩
     rw [HD2.out]
     go_wp2
     go_roundw
     case rel => exact ⟨k + 1, by omega, by go_num, by rw [HS.out]; exact hown, hnx⟩
     case measure => simp [intOf]; omega
  ·have hk8 : k = 8 := by omega
   subst hk8
   obtain ⟨a, cap, hv, hL⟩ := mW hown rfl
   have RB : Below w.heap.size w wr := hW.out.trans (hnx.mono (by omega))
   rw [hv]
   clear hown hnx hv
   go_wp2
   go_ret2
   exact ⟨a, cap, rfl, hL, RB⟩
theorem locks_any (w : World) (ht : IsTx w ra ga sa rs gs ss) :
  Calls Tryz.prog 97 #[.agg #[.slice ra rs.length rc, .slice ga gs.length gc, .slice sa ss.length sc]] w fun e w' => ∃ a cap, e = .returned (.tuple #[.slice a (lksOf rs gs ss).length cap, .int .i64 (bF rs gs ss)]) ∧ IsLks w' a (lksOf rs gs ss) ∧ Below w.heap.size w w' := by
 by_cases hc : bF rs gs ss = 0
 ·have hm : bQ rs.length gs.length ss.length = 0 := by
   by_cases hm : bQ rs.length gs.length ss.length = 0
   ·exact hm
   ·have := oS rs gs ss hm
    omega
  have h3 := (bK _ _ _ hm).2.2.1
  have hl : lksOf rs gs ss = aZ rs (aI ss) 8 := if_pos hc
  rw [hl, hc]
  exact locks_ok ra ga sa rc gc sc rs gs ss w ht hc h3
 ·have hl : lksOf rs gs ss = [] := if_neg hc
  rw [hl]
  exact (locks_bad ra ga sa rc gc sc rs gs ss w ht hc).mono fun _ _ ⟨he, hb⟩ => ⟨none, 0, he, fun i hi => absurd hi (by simp), hb⟩
end Go.Proofs.YtebjkmknhpgemaaGreat
