/-
  The document's own QueueOf.
  Conditions: the arguments can be read.
-/
import Derived.Test.YtikolifbljnokaaLocksQ
import Derived.Test.YtikolifbljnokaaLocksG
import Derived.WalkKit
import Derived.WalkSpells
import Derived.WalkLawsBesides
import Derived.ProofKit
import Derived.Deep.RegionHeld
import Derived.Deep.RegionHeld3
import Derived.BigQuiet
import Derived.Deep.RegionLaw
import Derived.Deep.DeepCutAuto
import Derived.Maps.AppendAt
namespace Go.Proofs.Ytikolifbljnokaa
open Go.RowKit

def qfTo (l : List TxA) (done : List Bool) (key n : Nat) : List Nat := (queueK l done key n).map Prod.fst
def qfAdd (l : List TxA) (done : List Bool) (key n : Nat) : List Nat := (qAdd l done key n).map Prod.fst
theorem qfTo_step (l : List TxA) (done : List Bool) (key n : Nat) : qfTo l done key (n + 1) = qfTo l done key n ++ qfAdd l done key n := by
  unfold qfTo qfAdd
  rw [queueK, List.map_append]
theorem qfTo_len (l : List TxA) (done : List Bool) (key n : Nat) : (qfTo l done key n).length ≤ n := by
  unfold qfTo
  rw [List.length_map]
  exact queueK_len l done key n
theorem qfAdd_is (l : List TxA) (done : List Bool) (key n : Nat) (d r t : Bool) (hd : dn done n = d) (hr : rdX (gX l n) key = r) (ht : wrX (gX l n) key = t) : qfAdd l done key n = if (!d && (r || t)) = true then [n] else [] := by
  unfold qfAdd qAdd hasX
  rw [hd, hr, ht]
  split <;> rfl

variable (la : Option Addr) (lc : Nat) (l : List TxA) (ba : Option Addr) (bc : Nat) (done : List Bool)

set_option maxRecDepth 100000 in
set_option maxHeartbeats 4000000 in
theorem queueOf_any (key : Nat) (w : World) (hl : IsTxs w la l) (hb : IsBools w ba done) (hd : done.length = l.length) (hl8 : l.length ≤ 8) :
    Calls Try.prog 28 #[.slice la l.length lc, .slice ba done.length bc, .int .i64 key] w fun e w' => ∃ a c, e = .returned (.slice a (nI (quN l done key)).length c) ∧ IsInts w' a (nI (quN l done key)) ∧ Below w.heap.size w w' := by
  obtain ⟨i0, hi, hz0, hz1, hz2⟩ := info_parts Try.info3
  have HL : Hid (IsTxs w la l) := hl
  have HBo : Hid (IsBools w ba done) := hb
  have HD : Hid (done.length = l.length) := hd
  clear hl hb hd
  go_enter Try.func28, Try.ntmps28
  go_wp2
  go_loopw [7, 8] (fun v i wr => ∃ k : Nat, k ≤ l.length ∧ i = .int .i64 k ∧ wr.ownsRow w.heap.size 3 1 v (nI (qfTo l done key k)).length ((nI (qfTo l done key k)).map (Value.int .i64)) ∧ Below w.heap.size w wr) (fun _ i _ => l.length - (intOf i).toNat)
  case atStart => exact ⟨0, Nat.zero_le _, rfl, World.ownsRow_nil _ _ _ _, Below.refl _ _⟩
  case round =>
    obtain ⟨k, hk, rfl, hown, hnx⟩ := hrel
    by_cases hlt : k < l.length
    · obtain ⟨b, off, rfl, _, e0, e1, e2, hx⟩ := HL.out k hlt
      obtain ⟨b2, off2, rfl, _, e3⟩ := HBo.out k (by rw [HD.out]; exact hlt)
      have d0 := ext_cell hnx e0
      have d1 := ext_cell hnx e1
      have d2 := ext_cell hnx e2
      have d3 : wr.cell? ⟨b2, off2 + k, none⟩ = some (.bool (dn done k)) := ext_cell hnx e3
      have HX : Hid (IsTx wr (l.getD k x0).ra (l.getD k x0).ga (l.getD k x0).sa (l.getD k x0).rs (l.getD k x0).gs (l.getD k x0).ss) := (hx.below hnx).t
      have HQ : Hid (∀ d r t, dn done k = d → decide ((key : Int) ∈ (l.getD k x0).rs) = r → decide ((key : Int) ∈ keysOf (l.getD k x0).ss) = t → qfAdd l done key k = if (!d && (r || t)) = true then [k] else []) := fun d r t h1 h2 h3 => qfAdd_is l done key k d r t h1 h2 h3
      have HS : Hid (qfTo l done key (k + 1) = qfTo l done key k ++ qfAdd l done key k) := qfTo_step l done key k
      have hnl : (nI (qfTo l done key k)).length ≤ 8 := by
        rw [nI_len]
        have := qfTo_len l done key k
        omega
      clear e0 e1 e2 e3 hx
      generalize l.getD k x0 = x at *
      obtain ⟨ra, ga, sa, rc, gc, sc, rs, gs, ss⟩ := x
      simp only at d0 d1 d2 HX HQ
      have j1 : (0 : Int) ≤ (k : Int) := by omega
      have j2 : (k : Int) < (l.length : Int) := by omega
      have j3 : (k : Int) < (done.length : Int) := by have := HD.out; omega
      have hsz0 : w.heap.size ≤ wr.heap.size := hnx.size
      have RQ : ∀ d r t, dn done k = d → decide ((key : Int) ∈ rs) = r → decide ((key : Int) ∈ keysOf ss) = t → qfAdd l done key k = if (!d && (r || t)) = true then [k] else [] := HQ.out
      have HRQ : Hid (∀ d r t, dn done k = d → decide ((key : Int) ∈ rs) = r → decide ((key : Int) ∈ keysOf ss) = t → qfAdd l done key k = if (!d && (r || t)) = true then [k] else []) := RQ
      clear RQ HQ
      generalize hqk : qfTo l done key k = qk at *
      generalize hqa : qfAdd l done key k = qa at *
      clear hqk hqa
      generalize dn done k = dd at *
      cases dd with
      | true =>
        have HA : Hid (qa = []) := HRQ.out true _ _ rfl rfl rfl
        clear HRQ
        have ho2 := hown
        have hnx2 := hnx
        clear hown hnx
        have HR : Hid (qk ++ qa = qk) := by
          show _ = _
          rw [HA.out]
          simp
        clear HA
        go_wp2
        go_roundw
        case rel => exact ⟨k + 1, by omega, by go_num, by rw [HS.out, HR.out]; exact ho2, hnx2⟩
        case measure => simp [intOf]; omega
      | false =>
        have HA0 : Hid (∀ r t, decide ((key : Int) ∈ rs) = r → decide ((key : Int) ∈ keysOf ss) = t → qa = if (r || t) = true then [k] else []) := fun r t h1 h2 => HRQ.out false r t rfl h1 h2
        clear HRQ
        go_wp2_with fail
        refine (reads_any ra ga sa rc gc sc rs gs ss key _ HX.out).mono ?_
        rintro e U1 ⟨rfl, hw1⟩
        have b1 : Below wr.heap.size wr U1 := by rw [hw1]; exact grow_alloc (Below.refl _ _) _
        have d0' := ext_cell b1 d0
        have d1' := ext_cell b1 d1
        have d2' := ext_cell b1 d2
        have HX1 : Hid (IsTx U1 ra ga sa rs gs ss) := HX.out.below b1
        have ho1 := owns_below hown b1
        have hnx1 : Below w.heap.size w U1 := grow_trans hnx b1
        clear hw1 b1 hown hnx HX d0 d1 d2 d3
        cases hr : decide ((key : Int) ∈ rs) with
        | true =>
          have HA : Hid (qa = [k]) := HA0.out true _ hr rfl
          have ho2 : U1.ownsRow w.heap.size 3 1 u7 (nI qk).length ((nI qk).map (Value.int .i64)) := ho1
          have hnx2 := hnx1
          have hsz : w.heap.size ≤ U1.heap.size := hnx2.size
          clear HA0 ho1 hnx1 d0' d1' d2' hr
          have HR : Hid (nI (qk ++ qa) = nI qk ++ [(k : Int)]) := by
            show _ = _
            rw [nI_app, HA.out]
            rfl
          clear HA
          go_wp2_with (first
            | (at_builtin; refine wpList_append_own _ rfl _ _ 22 rfl w.heap.size 3 i0 (.int .i64 0) 1 8 Try.underlying22 hi hz0 hz1 hz2 rfl (by decide) _ _ _ rfl (ho2.alloc _) ⟨U1.heap.size, 0, none⟩ 1 1 [.int .i64 k] rfl rfl (news_at _ _ _ (by simp)) (ints_oneCell .i64 [(k : Int)]) (by unfold maxLen; omega) (by omega) (by simp; omega) ?_; intro v' w6 hown' hgrow _)
            | go_in)
          have R : w6.ownsRow w.heap.size 3 1 v' (nI (qk ++ qa)).length ((nI (qk ++ qa)).map (Value.int .i64)) := by rw [HR.out, List.map_append, List.length_append]; exact hown'
          have RB := (hnx2.alloc hsz _).grown hgrow (by simp; omega) (fun j hj => (ho2.lt j hj).1)
          clear hown' hgrow ho2 hnx2
          go_wp2
          go_roundw
          case rel => exact ⟨k + 1, by omega, by go_num, by rw [HS.out]; exact R, RB⟩
          case measure => simp [intOf]; omega
        | false =>
          go_wp2_with fail
          refine (writes_any ra ga sa rc gc sc rs gs ss key _ HX1.out).mono ?_
          rintro e U2 ⟨rfl, hw2⟩
          have b2 : Below U1.heap.size U1 U2 := by rw [hw2]; exact grow_alloc (Below.refl _ _) _
          have ho2 := owns_below ho1 b2
          have hnx2 : Below w.heap.size w U2 := grow_trans hnx1 b2
          have hsz : w.heap.size ≤ U2.heap.size := hnx2.size
          clear hw2 b2 ho1 hnx1 HX1 d0' d1' d2'
          cases ht : decide ((key : Int) ∈ keysOf ss) with
          | true =>
            have HA : Hid (qa = [k]) := HA0.out false true hr ht
            clear HA0 hr ht
            have HR : Hid (nI (qk ++ qa) = nI qk ++ [(k : Int)]) := by
              show _ = _
              rw [nI_app, HA.out]
              rfl
            clear HA
            go_wp2_with (first
              | (at_builtin; refine wpList_append_own _ rfl _ _ 22 rfl w.heap.size 3 i0 (.int .i64 0) 1 8 Try.underlying22 hi hz0 hz1 hz2 rfl (by decide) _ _ _ rfl (ho2.alloc _) ⟨U2.heap.size, 0, none⟩ 1 1 [.int .i64 k] rfl rfl (news_at _ _ _ (by simp)) (ints_oneCell .i64 [(k : Int)]) (by unfold maxLen; omega) (by omega) (by simp; omega) ?_; intro v' w6 hown' hgrow _)
              | go_in)
            have R : w6.ownsRow w.heap.size 3 1 v' (nI (qk ++ qa)).length ((nI (qk ++ qa)).map (Value.int .i64)) := by rw [HR.out, List.map_append, List.length_append]; exact hown'
            have RB := (hnx2.alloc hsz _).grown hgrow (by simp; omega) (fun j hj => (ho2.lt j hj).1)
            clear hown' hgrow ho2 hnx2
            go_wp2
            go_roundw
            case rel => exact ⟨k + 1, by omega, by go_num, by rw [HS.out]; exact R, RB⟩
            case measure => simp [intOf]; omega
          | false =>
            have HA : Hid (qa = []) := HA0.out false false hr ht
            clear HA0 hr ht
            have HR : Hid (qk ++ qa = qk) := by
              show _ = _
              rw [HA.out]
              simp
            clear HA
            go_wp2
            go_roundw
            case rel => exact ⟨k + 1, by omega, by go_num, by rw [HS.out, HR.out]; exact ho2, hnx2⟩
            case measure => simp [intOf]; omega
    · have hkk : k = l.length := by omega
      rw [hkk] at hown
      obtain ⟨a, c, hv, hI⟩ := ints_of_owns hown
      subst hv
      have RI : Hid (IsInts wr a (nI (quN l done key))) := hI
      clear hown hI
      have hEq : nI (qfTo l done key l.length) = nI (quN l done key) := rfl
      rw [hEq]
      go_wp2
      go_ret
      exact ⟨a, c, rfl, RI.out, hnx⟩
end Go.Proofs.Ytikolifbljnokaa
