/-
  The document's own SerialOf, ApplyOf and SameResults.
  Conditions: what they are handed can be read.
-/
import Derived.Test.YtcgpkonfneofdaaStoreI
import Derived.WalkKit
import Derived.WalkSpells
import Derived.WalkLawsBesides
import Derived.Defers
import Derived.Recover
import Derived.ProofKit
import Derived.Deep.RegionHeld
import Derived.Deep.RegionHeld3
import Derived.Deep.RegionLaw
import Derived.BigQuiet
namespace Go.Proofs.Ytcgpkonfneofdaa
open Go.RowKit

variable (sa la : Option Addr) (sc lc : Nat) (s : List Int) (l : List TxA)

set_option maxRecDepth 100000 in
theorem serE_len {s : List Int} {l : List TxA} (h : ¬ s.length = 8) : serE s l = 1 := by
  have h1 : lenE s = 1 := if_neg h
  unfold serE
  rw [h1]
  rfl
set_option maxRecDepth 100000 in
theorem serE_chk {s : List Int} {l : List TxA} (h : s.length = 8) : serE s l = chkL l := by
  have h1 : lenE s = 0 := if_pos h
  unfold serE
  rw [h1, firstNZ, if_pos rfl, firstNZ, firstNZ]
  split <;> simp_all

set_option maxRecDepth 100000 in
set_option maxHeartbeats 4000000 in
theorem serialOf_ok (w : World) (hs : IsInts w sa s) (h8 : s.length = 8) (hl : IsTxs w la l) (hE : chkL l = 0) :
    Calls Try.prog 35 #[.slice sa s.length sc, .slice la l.length lc] w fun e w' => ∃ ea ec xa xc, e = .returned (.tuple #[.slice ea s.length ec, .slice xa (serRes s l).length xc, .int .i64 0]) ∧ IsInts w' ea (serEnd s l) ∧ IsRes w' xa (serRes s l) ∧ (serRes s l).length ≤ xc ∧ Below w.heap.size w w' := by
  have hl8 := chkL_len hE
  obtain ⟨i0, hi, hz0, hz1, hz2⟩ := info_parts Try.info3
  obtain ⟨ad, rfl⟩ : ∃ ad, sa = some ad := by
    obtain ⟨b, off, h, _⟩ := hs 0 (by omega)
    exact ⟨_, h⟩
  have HS : Hid (IsInts w (some ad) s) := hs
  have HL : Hid (IsTxs w la l) := hl
  have HE : Hid (chkL l = 0) := hE
  have H8 : Hid (s.length = 8) := h8
  have hd8 : Hid (decide (s.length = 8) = true) := decide_eq_true h8
  clear hs hl hE h8
  go_enter Try.func35, Try.ntmps35
  go_wp2_with fail
  refine (isStore_any s (some ad) sc _).mono ?_
  rintro e w0 ⟨rfl, hw0⟩
  rw [hw0, hd8.out]
  clear hw0
  go_wp2_with fail
  refine (checkTxns_any la lc l _ HL.out).mono ?_
  rintro e w1 ⟨rfl, hb1⟩
  rw [HE.out]
  have hs1 : Hid (∀ o : Obj, IsInts (w1.alloc o) (some ad) s) := fun o => (HS.out.below hb1).below (grow_alloc (Below.refl _ _) _)
  go_wp2_with (first
    | (at_builtin; refine wpList_append_own _ rfl _ _ 22 rfl w1.heap.size 3 i0 (.int .i64 0) 1 8 Try.underlying22 hi hz0 hz1 hz2 rfl (by decide) _ 0 [] rfl (World.ownsRow_lit w1 #[] 0 (Nat.le_refl _) (by decide) rfl) ad s.length sc (s.map (Value.int .i64)) rfl (by simp) (news_ints (hs1.out _)) (ints_oneCell .i64 s) (by have := H8.out; unfold maxLen; omega) (by have := H8.out; omega) (by simp) ?_; intro v' w3 hown' hgrow _)
    | go_in)
  have RB : Below w1.heap.size w1 w3 := (grow_alloc (Below.refl _ _) _).grown hgrow (by simp) (fun j hj => by have hj' : some w1.heap.size = some j := hj; injection hj' with hj'; exact Nat.le_of_eq hj')
  simp only [Nat.zero_add, List.nil_append] at hown'
  obtain ⟨oa, oc, rfl, hoa⟩ := at_of_owns hown'
  have hW3 : Hid (Below w.heap.size w w3) := grow_trans hb1 RB
  have hoa' : Hid (IsInts w3 oa s) := hoa.ints (Nat.le_refl _)
  clear hgrow RB hown' hoa hs1 hb1
  go_wp2
  go_loopw [8, 9, 10, 11] (fun o v i _ wr => ∃ (k : Nat) (oa : Option Addr) (oc : Nat) (rl : List RsA), k ≤ l.length ∧ o = .slice oa s.length oc ∧ i = .int .i64 k ∧ Hid (IsInts wr oa (serEnd s (l.take k))) ∧ Hid (ResRow w.heap.size wr v rl) ∧ Hid (rl.map RsA.told = serRes s (l.take k)) ∧ Hid (Below w.heap.size w wr)) (fun _ _ i _ _ => l.length - (intOf i).toNat)
  case atStart => exact ⟨0, oa, oc, [], Nat.zero_le _, rfl, rfl, hoa', resRow_nil _ _, rfl, hW3⟩
  case round =>
    obtain ⟨k, oa, oc, rl, hk, rfl, rfl, hout, hres, htold, hbl⟩ := hrel
    clear hW3 hoa'
    by_cases hlt : k < l.length
    · obtain ⟨b, off, rfl, hb, c0, c1, c2, hx⟩ := HL.out k hlt
      have d0 := ext_cell (grow_alloc hbl.out (.cells #[.bool false, .slice none 0 0] 40)) c0
      have d1 := ext_cell (grow_alloc hbl.out (.cells #[.bool false, .slice none 0 0] 40)) c1
      have d2 := ext_cell (grow_alloc hbl.out (.cells #[.bool false, .slice none 0 0] 40)) c2
      have HX : Hid (IsX w (l.getD k x0)) := hx
      have HC : Hid (chkX (l.getD k x0) = 0) := chkL_at HE.out k hlt
      have HT1 : Hid (serEnd s (l.take (k + 1)) = aEnd (serEnd s (l.take k)) (l.getD k x0)) := serEnd_step s l k hlt
      have HT2 : Hid (serRes s (l.take (k + 1)) = serRes s (l.take k) ++ [(aDone (serEnd s (l.take k)) (l.getD k x0), aVals (serEnd s (l.take k)) (l.getD k x0))]) := serRes_step s l k hlt
      have hs1 : Hid ((serEnd s (l.take k)).length = s.length) := serEnd_len _ _
      have HR1 : Hid ((serRes s (l.take k)).length = k) := by show _ = _; rw [serRes_len, List.length_take]; omega
      clear c0 c1 c2 hx
      generalize serEnd s (l.take k) = s1 at *
      generalize serRes s (l.take k) = R1 at *
      generalize l.getD k x0 = x at *
      obtain ⟨ra, ga, ta, rc, gc, tc, rs, gs, ss⟩ := x
      simp only at d0 d1 d2
      have CA : Hid (Calls Try.prog 70 #[.slice oa s.length oc, .agg #[.slice ra rs.length rc, .slice ga gs.length gc, .slice ta ss.length tc]] (wr.alloc (.cells #[.bool false, .slice none 0 0] 40)) fun e w'' => ∃ a cap va vc, e = .returned (.tuple #[.slice a s.length cap, .agg #[.bool (aDone s1 ⟨ra, ga, ta, rc, gc, tc, rs, gs, ss⟩), .slice va (aVals s1 ⟨ra, ga, ta, rc, gc, tc, rs, gs, ss⟩).length vc]]) ∧ IsAt (wr.heap.size + 1) w''.heap.size w'' a (aEnd s1 ⟨ra, ga, ta, rc, gc, tc, rs, gs, ss⟩) ∧ IsAt (wr.heap.size + 1) w''.heap.size w'' va (aVals s1 ⟨ra, ga, ta, rc, gc, tc, rs, gs, ss⟩) ∧ Below (wr.alloc (.cells #[.bool false, .slice none 0 0] 40)).heap.size (wr.alloc (.cells #[.bool false, .slice none 0 0] 40)) w'') := by
        have h := applyR_any oa oc s1 ra ga ta rc gc tc rs gs ss (wr.alloc (.cells #[.bool false, .slice none 0 0] 40)) (hout.out.below (grow_alloc (Below.refl _ _) _)) (by rw [hs1.out]; exact H8.out) (HX.out.t.below (grow_alloc hbl.out _)) HC.out
        rw [hs1.out] at h
        refine h.mono ?_
        rintro e w'' ⟨a, cap, va, vc, rfl, h1, _, h2, h3⟩
        exact ⟨a, cap, va, vc, rfl, h1.widen (by simp) (Nat.le_refl _), h2.widen (by simp) (Nat.le_refl _), h3⟩
      generalize aDone s1 ⟨ra, ga, ta, rc, gc, tc, rs, gs, ss⟩ = D at *
      generalize aVals s1 ⟨ra, ga, ta, rc, gc, tc, rs, gs, ss⟩ = Z at *
      generalize aEnd s1 ⟨ra, ga, ta, rc, gc, tc, rs, gs, ss⟩ = E1 at *
      have hrl : rl.length ≤ 100 := by
        have h := congrArg List.length htold.out
        rw [List.length_map, HR1.out] at h
        omega
      have hWw : Hid (w.heap.size ≤ wr.heap.size) := hbl.out.size
      have hlo : Hid (∀ j, u9.ownBlock = some j → w.heap.size ≤ j) := fun j hj => (hres.out.1.lt j hj).1
      have hown : Hid (∀ j, u9.ownBlock = some j → j < wr.heap.size) := fun j hj => (hres.out.1.lt j hj).2
      go_wp2_with fail
      refine CA.out.mono ?_
      clear CA
      rintro e wa ⟨a, cap, va, vc, rfl, ha, hva, hba⟩
      have f0 : wa.cell? ⟨wr.heap.size, 0, none⟩ = some (.bool false) := ext_cell hba (by simp)
      have f1 : wa.cell? ⟨wr.heap.size, 1, none⟩ = some (.slice none 0 0) := ext_cell hba (by simp)
      have ff : ∀ j, wa.frozen? ⟨wr.heap.size, j, none⟩ = false := fun j => (hba.frozen (p := ⟨wr.heap.size, j, none⟩) (by simp)).trans (by simp)
      have g0 : ((wa.setCell ⟨wr.heap.size, 0, none⟩ (.bool D)).setCell ⟨wr.heap.size, 1, none⟩ (.slice va Z.length vc)).cell? ⟨wr.heap.size, 0, none⟩ = some (.bool D) := by simp [go_sem, f0]
      have g1 : ((wa.setCell ⟨wr.heap.size, 0, none⟩ (.bool D)).setCell ⟨wr.heap.size, 1, none⟩ (.slice va Z.length vc)).cell? ⟨wr.heap.size, 1, none⟩ = some (.slice va Z.length vc) := by simp [go_sem, f1]
      have U1 : Below wr.heap.size wr ((wa.setCell ⟨wr.heap.size, 0, none⟩ (.bool D)).setCell ⟨wr.heap.size, 1, none⟩ (.slice va Z.length vc)) := grow_set (grow_set (grow_trans (grow_alloc (Below.refl _ _) _) hba) (Nat.le_refl _) _) (Nat.le_refl _) _
      have ha2 : IsAt (wr.heap.size + 1) wa.heap.size ((wa.setCell ⟨wr.heap.size, 0, none⟩ (.bool D)).setCell ⟨wr.heap.size, 1, none⟩ (.slice va Z.length vc)) a E1 := (ha.set ⟨wr.heap.size, 0, none⟩ _ (.inl (by simp))).set ⟨wr.heap.size, 1, none⟩ _ (.inl (by simp))
      have hva2 : IsAt (wr.heap.size + 1) wa.heap.size ((wa.setCell ⟨wr.heap.size, 0, none⟩ (.bool D)).setCell ⟨wr.heap.size, 1, none⟩ (.slice va Z.length vc)) va Z := (hva.set ⟨wr.heap.size, 0, none⟩ _ (.inl (by simp))).set ⟨wr.heap.size, 1, none⟩ _ (.inl (by simp))
      have hws : wa.heap.size = ((wa.setCell ⟨wr.heap.size, 0, none⟩ (.bool D)).setCell ⟨wr.heap.size, 1, none⟩ (.slice va Z.length vc)).heap.size := by simp
      rw [hws] at ha2 hva2
      have hres2 : Hid (ResRow w.heap.size ((wa.setCell ⟨wr.heap.size, 0, none⟩ (.bool D)).setCell ⟨wr.heap.size, 1, none⟩ (.slice va Z.length vc)) u9 rl) := hres.out.below U1
      have hbl2 : Hid (Below w.heap.size w ((wa.setCell ⟨wr.heap.size, 0, none⟩ (.bool D)).setCell ⟨wr.heap.size, 1, none⟩ (.slice va Z.length vc))) := grow_trans hbl.out U1
      have Ha2 : Hid (IsAt (wr.heap.size + 1) ((wa.setCell ⟨wr.heap.size, 0, none⟩ (.bool D)).setCell ⟨wr.heap.size, 1, none⟩ (.slice va Z.length vc)).heap.size ((wa.setCell ⟨wr.heap.size, 0, none⟩ (.bool D)).setCell ⟨wr.heap.size, 1, none⟩ (.slice va Z.length vc)) a E1) := ha2
      have Hva2 : Hid (IsAt (wr.heap.size + 1) ((wa.setCell ⟨wr.heap.size, 0, none⟩ (.bool D)).setCell ⟨wr.heap.size, 1, none⟩ (.slice va Z.length vc)).heap.size ((wa.setCell ⟨wr.heap.size, 0, none⟩ (.bool D)).setCell ⟨wr.heap.size, 1, none⟩ (.slice va Z.length vc)) va Z) := hva2
      go_upto_region 13 with fail
      clear ha hva hba f0 f1 ff U1 hws ha2 hva2 hres hbl hout d0 d1 d2
      generalize ((wa.setCell ⟨wr.heap.size, 0, none⟩ (.bool D)).setCell ⟨wr.heap.size, 1, none⟩ (.slice va Z.length vc)) = W at *
      have hfar : Hid (∀ {zs : List Int} {q : Option Addr}, IsAt (wr.heap.size + 1) W.heap.size W q zs → zs ≠ [] → ∀ ad, q = some ad → u9.ownBlock ≠ some ad.block) := fun h hne ad had e => by
        obtain ⟨b, off, ha', h1, _, _⟩ := h 0 (List.length_pos_iff.2 hne)
        rw [had] at ha'
        injection ha' with ha'
        subst ha'
        have := hown.out _ e
        simp at this
        omega
      go_wp2_with (first
        | (at_builtin; refine wpList_append_rs rfl _ _ rfl w.heap.size u9 rl ⟨va, vc, D, Z⟩ rfl (hres2.out.below (grow_alloc (Below.refl _ _) _)) ⟨W.heap.size, 0, none⟩ 1 rfl (news_rs W D _ _ rfl) (((Hva2.out.below (grow_alloc (Below.refl _ _) _))).widen (by have := hWw.out; omega) (by simp)) (hfar.out Hva2.out) hrl (Nat.le_trans hbl2.out.size (by simp)) ?_; intro v' w4 hres4 hg4)
        | go_in)
      have n1 : Hid (IsInts w4 a (serEnd s (l.take (k + 1)))) := by
        rw [HT1.out]
        exact ((Ha2.out.below (grow_alloc (Below.refl _ _) _)).keptBy hg4 (hfar.out Ha2.out)).ints (Nat.le_trans (by simp) hg4.size)
      have n2 : Hid (ResRow w.heap.size w4 v' (rl ++ [⟨va, vc, D, Z⟩])) := hres4
      have n3 : Hid ((rl ++ [(⟨va, vc, D, Z⟩ : RsA)]).map RsA.told = serRes s (l.take (k + 1))) := by show _ = _; rw [HT2.out, List.map_append, htold.out]; rfl
      have n4 : Hid (Below w.heap.size w w4) := (grow_alloc hbl2.out _).grown hg4 (Nat.le_trans hbl2.out.size (by simp)) (fun j e => hlo.out j e)
      clear hres4 hg4 hres2 hbl2 Ha2 Hva2 hfar g0 g1 hown hlo hWw
      go_wp2
      go_roundw
      case rel => exact ⟨k + 1, a, cap, rl ++ [⟨va, vc, D, Z⟩], by omega, rfl, by go_num, n1, n2, n3, n4⟩
      case measure => simp [intOf]; omega
    · have hkk : k = l.length := by omega
      have n1 : Hid (IsInts wr oa (serEnd s l)) := by
        have h := hout.out
        rw [hkk, List.take_of_length_le (Nat.le_refl _)] at h
        exact h
      have n3 : rl.map RsA.told = serRes s l := by
        have h := htold.out
        rw [hkk, List.take_of_length_le (Nat.le_refl _)] at h
        exact h
      obtain ⟨xa, xc, hv, hrs, hcap⟩ := hres.out.res2
      rw [n3] at hv hrs hcap
      have HCAP : Hid ((serRes s l).length ≤ xc) := hcap
      clear hcap
      subst hv
      have n2 : Hid (IsRes wr xa (serRes s l)) := hrs
      clear hout htold hres n3 hrs
      go_wp2
      go_ret3
      exact ⟨oa, oc, xa, xc, rfl, n1.out, n2.out, HCAP.out, hbl.out⟩

set_option maxRecDepth 100000 in
set_option maxHeartbeats 1000000 in
theorem serialOf_any (w : World) (hs : IsInts w sa s) (hl : IsTxs w la l) :
    Calls Try.prog 35 #[.slice sa s.length sc, .slice la l.length lc] w fun e w' => ∃ ea ec xa xc, e = .returned (.tuple #[.slice ea (sEnd s l).length ec, .slice xa (sRes s l).length xc, .int .i64 (serE s l)]) ∧ IsInts w' ea (sEnd s l) ∧ IsRes w' xa (sRes s l) ∧ (sRes s l).length ≤ xc ∧ Below w.heap.size w w' := by
  by_cases h8 : s.length = 8
  · have hc := serE_chk (l := l) h8
    by_cases hE : chkL l = 0
    · have he : serE s l = 0 := hc.trans hE
      have e1 : sEnd s l = serEnd s l := if_pos he
      have e2 : sRes s l = serRes s l := if_pos he
      rw [e1, e2, he, serEnd_len]
      exact serialOf_ok sa la sc lc s l w hs h8 hl hE
    · have e1 : Hid (sEnd s l = []) := if_neg (by rw [hc]; exact hE)
      have e2 : Hid (sRes s l = []) := if_neg (by rw [hc]; exact hE)
      rw [hc, e1.out, e2.out]
      have hd8 : Hid (decide (s.length = 8) = true) := decide_eq_true h8
      have hb' : (chkL l != 0) = true := by simpa using hE
      have HL : Hid (IsTxs w la l) := hl
      clear hc hE h8 hs hl e1 e2
      go_enter Try.func35, Try.ntmps35
      go_wp2_with fail
      refine (isStore_any s sa sc _).mono ?_
      rintro e w0 ⟨rfl, hw0⟩
      rw [hw0, hd8.out]
      clear hw0
      go_wp2_with fail
      refine (checkTxns_any la lc l _ HL.out).mono ?_
      rintro e w1 ⟨rfl, hb1⟩
      go_wp2
      go_ret3
      exact ⟨none, 0, none, 0, rfl, fun i hi => absurd hi (by simp), fun i hi => absurd hi (by simp), Nat.zero_le _, hb1⟩
  · have hc := serE_len (l := l) h8
    have e1 : Hid (sEnd s l = []) := if_neg (by rw [hc]; decide)
    have e2 : Hid (sRes s l = []) := if_neg (by rw [hc]; decide)
    rw [hc, e1.out, e2.out]
    have hd8 : Hid (decide (s.length = 8) = false) := decide_eq_false h8
    clear hc h8 hs hl e1 e2
    go_enter Try.func35, Try.ntmps35
    go_wp2_with fail
    refine (isStore_any s sa sc _).mono ?_
    rintro e w0 ⟨rfl, hw0⟩
    rw [hw0, hd8.out]
    clear hw0
    go_wp2
    go_ret3
    exact ⟨none, 0, none, 0, rfl, fun i hi => absurd hi (by simp), fun i hi => absurd hi (by simp), Nat.zero_le _, Below.refl _ _⟩
end Go.Proofs.Ytcgpkonfneofdaa
