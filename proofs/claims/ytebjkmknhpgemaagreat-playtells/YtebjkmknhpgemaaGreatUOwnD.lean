/-
  
  Conditions: those that each theorem states.
-/
import Derived.Test.YtebjkmknhpgemaaGreatUOwnA
set_option maxRecDepth 100000
namespace Go.Proofs.YtebjkmknhpgemaaGreat
open Go.RowKit
theorem OR.mono {lo hi lo' hi' : Nat} {w : World} {a : Option Addr} {n : Nat} {len : Nat → Nat} {G : Nat → Nat → Value} {g : Nat} {B : Nat → Nat} (h : OR lo hi w a n len G g B) (h1 : lo' ≤ lo) (h2 : hi ≤ hi') : OR lo' hi' w a n len G g B :=
 ⟨fun hn => ⟨(h.ad hn).1, Nat.le_trans h1 (h.ad hn).2.1, Nat.lt_of_lt_of_le (h.ad hn).2.2 h2⟩, fun i hi => by
  obtain ⟨a', c, e1, e2, e3, e4⟩ := h.o i hi
  exact ⟨a', c, e1, e2, e3, fun ad e => Nat.le_trans h1 (e4 ad e)⟩, fun i hi hl => ⟨Nat.le_trans h1 (h.b i hi hl).1, Nat.lt_of_lt_of_le (h.b i hi hl).2.1 h2, (h.b i hi hl).2.2⟩, h.d, h.c, h.f⟩
theorem OR.keep {lo hi : Nat} {w w' : World} {a : Option Addr} {n : Nat} {len : Nat → Nat} {G : Nat → Nat → Value} {g : Nat} {B : Nat → Nat} (h : OR lo hi w a n len G g B) (hb : ∀ b, lo ≤ b → b < hi → w'.heap[b]? = w.heap[b]?) : OR lo hi w' a n len G g B :=
 ⟨h.ad, fun i hi => by
  obtain ⟨a', c, e1, e2, e3, e4⟩ := h.o i hi
  obtain ⟨_, a1, a2⟩ := h.ad (Nat.lt_of_le_of_lt (Nat.zero_le _) hi)
  exact ⟨a', c, (World.cell?_of_block (a := ⟨g, i, none⟩) (hb g a1 a2)).trans e1, e2, e3, e4⟩, h.b, h.d, fun i k hi hk => by
  obtain ⟨b1, b2, _⟩ := h.b i hi (Nat.lt_of_le_of_lt (Nat.zero_le _) hk)
  exact (World.cell?_of_block (a := ⟨B i, k, none⟩) (hb (B i) b1 b2)).trans (h.c i k hi hk), fun i k hi hl => by
  obtain ⟨b1, b2, _⟩ := h.b i hi hl
  exact (World.frozen?_of_block (a := ⟨B i, k, none⟩) (hb (B i) b1 b2)).trans (h.f i k hi hl)⟩
theorem dN (w : World) (b j : Nat) (u : Value) (c : Nat) (hne : c ≠ b) : (w.setCell ⟨b, j, none⟩ u).heap[c]? = w.heap[c]? := by
 by_cases hc : c < w.heap.size
 ·exact (cJ w b j u).block c hc (fun e => by injection e with e; exact hne e)
 ·rw [Array.getElem?_eq_none (by rw [World.size_setCell]; omega), Array.getElem?_eq_none (by omega)]
theorem OR.far {lo hi : Nat} {w : World} {a : Option Addr} {n : Nat} {len : Nat → Nat} {G : Nat → Nat → Value} {g : Nat} {B : Nat → Nat} (h : OR lo hi w a n len G g B) (b j : Nat) (u : Value) (hb : b < lo ∨ hi ≤ b) : OR lo hi (w.setCell ⟨b, j, none⟩ u) a n len G g B :=
 h.keep fun c h1 h2 => dN w b j u c (by omega)
theorem OR.set {lo hi : Nat} {w : World} {a : Option Addr} {n : Nat} {len : Nat → Nat} {G G' : Nat → Nat → Value} {g : Nat} {B : Nat → Nat} (h : OR lo hi w a n len G g B) {n0 k0 : Nat} (hn : n0 < n) (hk : k0 < len n0) (u : Value) (hG : ∀ i k, i < n → k < len i → G' i k = if i = n0 ∧ k = k0 then u else G i k) : OR lo hi (w.setCell ⟨B n0, k0, none⟩ u) a n len G' g B := by
 have hl : 0 < len n0 := by omega
 obtain ⟨b1, b2, b3⟩ := h.b n0 hn hl
 refine ⟨h.ad, fun i hi => ?_, h.b, h.d, fun i k hi hk' => ?_, fun i k hi hl' => ?_⟩
 ·obtain ⟨a', c, e1, e2, e3, e4⟩ := h.o i hi
  exact ⟨a', c, by rw [World.cell?_setCell_far _ _ _ _ (by simpa using b3)]; exact e1, e2, e3, e4⟩
 ·rw [hG i k hi hk']
  by_cases e : i = n0
  ·subst e
   by_cases ek : k = k0
   ·subst ek
    rw [if_pos ⟨rfl, rfl⟩]
    exact aK (h.c i k hi hk')
   ·rw [if_neg (fun q => ek q.2)]
    exact aH ek (h.c i k hi hk')
  ·rw [if_neg (fun q => e q.1), World.cell?_setCell_far _ _ _ _ (by simpa using h.d n0 i hn hi (fun q => e q.symm) hl (by omega))]
   exact h.c i k hi hk'
 ·rw [World.frozen?_setCell]; exact h.f i k hi hl'
theorem OR.congr {lo hi : Nat} {w : World} {a : Option Addr} {n : Nat} {len : Nat → Nat} {G G' : Nat → Nat → Value} {g : Nat} {B : Nat → Nat} (h : OR lo hi w a n len G g B) (hG : ∀ i k, i < n → k < len i → G' i k = G i k) : OR lo hi w a n len G' g B :=
 ⟨h.ad, h.o, h.b, h.d, fun i k hi hk => by rw [hG i k hi hk]; exact h.c i k hi hk, h.f⟩
structure OwnSt (C : Nat) (w : World) (sa ra wa va : Option Addr) (sc : Nat) (l : List TxA) (sh : Nat) (S : SA) (g0 c1 c2 c3 hi gr gw gv : Nat) (Br Bw Bv : Nat → Nat) : Prop where
 st : NewRow C w sa sc g0 8 (fun k => .int .i64 (S.st.getD k 0))
 h1 : C ≤ c1 ∧ g0 < c1
 h2 : c1 ≤ c2
 h3 : c2 ≤ c3
 h4 : c3 ≤ hi
 h5 : hi ≤ w.heap.size
 rd : OR c1 c2 w ra l.length (fun _ => sh) (fun i k => .bool (bW S.rd i k)) gr Br
 wr : OR c2 c3 w wa l.length (fun _ => sh) (fun i k => .bool (bW S.wr i k)) gw Bw
 vs : OR c3 hi w va l.length (fun i => (gX l i).rs.length) (fun i k => .int .i64 ((S.vs.getD i []).getD k 0)) gv Bv
 f : Form sh l S
theorem NewRow.keep {lo : Nat} {w w' : World} {a : Option Addr} {c g n : Nat} {G : Nat → Value} (h : NewRow lo w a c g n G) (hb : w'.heap[g]? = w.heap[g]?) (hs : w.heap.size ≤ w'.heap.size) : NewRow lo w' a c g n G :=
 ⟨fun hn => by
  obtain ⟨h1, h2, h3, h4, h5⟩ := h.e hn
  exact ⟨h1, h2, Nat.lt_of_lt_of_le h3 hs, fun k hk => (World.cell?_of_block (a := ⟨g, k, none⟩) hb).trans (h4 k hk), fun k => (World.frozen?_of_block (a := ⟨g, k, none⟩) hb).trans (h5 k)⟩, h.z, h.lo⟩
theorem OwnSt.keep {C : Nat} {w w' : World} {sa ra wa va : Option Addr} {sc : Nat} {l : List TxA} {sh : Nat} {S : SA} {g0 c1 c2 c3 hi gr gw gv : Nat} {Br Bw Bv : Nat → Nat} (h : OwnSt C w sa ra wa va sc l sh S g0 c1 c2 c3 hi gr gw gv Br Bw Bv) (hb : ∀ b, C ≤ b → b < w.heap.size → w'.heap[b]? = w.heap[b]?) (hs : w.heap.size ≤ w'.heap.size) : OwnSt C w' sa ra wa va sc l sh S g0 c1 c2 c3 hi gr gw gv Br Bw Bv := by
 have e := h.st.e (by decide)
 have k1 := h.h1
 have k2 := h.h2
 have k3 := h.h3
 have k4 := h.h4
 have k5 := h.h5
 exact ⟨h.st.keep (hb g0 e.2.1 e.2.2.1) hs, k1, k2, k3, k4, by omega, h.rd.keep (fun b q1 q2 => hb b (by omega) (by omega)), h.wr.keep (fun b q1 q2 => hb b (by omega) (by omega)), h.vs.keep (fun b q1 q2 => hb b (by omega) (by omega)), h.f⟩
theorem OwnSt.below {C : Nat} {w w' : World} {sa ra wa va : Option Addr} {sc : Nat} {l : List TxA} {sh : Nat} {S : SA} {g0 c1 c2 c3 hi gr gw gv : Nat} {Br Bw Bv : Nat → Nat} (h : OwnSt C w sa ra wa va sc l sh S g0 c1 c2 c3 hi gr gw gv Br Bw Bv) (hb : Below w.heap.size w w') : OwnSt C w' sa ra wa va sc l sh S g0 c1 c2 c3 hi gr gw gv Br Bw Bv := h.keep (fun b _ h2 => hb.block b h2) hb.size
theorem OwnSt.set {C : Nat} {w : World} {sa ra wa va : Option Addr} {sc : Nat} {l : List TxA} {sh : Nat} {S : SA} {g0 c1 c2 c3 hi gr gw gv : Nat} {Br Bw Bv : Nat → Nat} (h : OwnSt C w sa ra wa va sc l sh S g0 c1 c2 c3 hi gr gw gv Br Bw Bv) (b j : Nat) (u : Value) (hb : b < C) : OwnSt C (w.setCell ⟨b, j, none⟩ u) sa ra wa va sc l sh S g0 c1 c2 c3 hi gr gw gv Br Bw Bv := h.keep (fun c h1 _ => dN w b j u c (by omega)) (by rw [World.size_setCell]; exact Nat.le_refl _)
theorem OR.isBR {lo hi : Nat} {w : World} {a : Option Addr} {n sh : Nat} {F : Nat → Nat → Bool} {g : Nat} {B : Nat → Nat} (h : OR lo hi w a n (fun _ => sh) (fun i k => .bool (F i k)) g B) (h0 : 0 < sh) (hh : hi ≤ w.heap.size) : IsBR 0 w a n sh F := fun i hi => by
 obtain ⟨e1, e2, e3⟩ := h.ad (by omega)
 obtain ⟨a', c, o1, o2, _, _⟩ := h.o i hi
 obtain ⟨b1, b2, _⟩ := h.b i hi h0
 rw [o2 h0] at o1
 exact ⟨g, 0, B i, 0, c, e1, ⟨Nat.zero_le _, by omega⟩, ⟨Nat.zero_le _, by omega⟩, by rw [Nat.zero_add]; exact o1, fun k hk => by rw [Nat.zero_add]; exact h.c i k hi hk⟩
theorem OR.isIR {lo hi : Nat} {w : World} {a : Option Addr} {l : List TxA} {V : List (List Int)} {g : Nat} {B : Nat → Nat} (h : OR lo hi w a l.length (fun i => (gX l i).rs.length) (fun i k => .int .i64 ((V.getD i []).getD k 0)) g B) (hv : ∀ i, i < l.length → (V.getD i []).length = (gX l i).rs.length) (hh : hi ≤ w.heap.size) : IsIR 0 w a l V := fun i hi => by
 obtain ⟨e1, e2, e3⟩ := h.ad (by omega)
 obtain ⟨a', c, o1, o2, o3, _⟩ := h.o i hi
 refine ⟨g, 0, a', c, e1, ⟨Nat.zero_le _, by omega⟩, by rw [Nat.zero_add]; exact o1, hv i hi, fun k hk => ?_, fun _ _ => Nat.zero_le _, o3⟩
 rw [hv i hi] at hk
 obtain ⟨b1, b2, _⟩ := h.b i hi (by omega)
 exact ⟨B i, 0, o2 (by omega), by omega, by rw [Nat.zero_add]; exact h.c i k hi hk⟩
theorem OwnSt.ints {C : Nat} {w : World} {sa ra wa va : Option Addr} {sc : Nat} {l : List TxA} {sh : Nat} {S : SA} {g0 c1 c2 c3 hi gr gw gv : Nat} {Br Bw Bv : Nat → Nat} (h : OwnSt C w sa ra wa va sc l sh S g0 c1 c2 c3 hi gr gw gv Br Bw Bv) : IsInts w sa S.st := fun k hk => by
 rw [h.f.st] at hk
 obtain ⟨e1, e2, e3, e4, _⟩ := h.st.e (by decide)
 exact ⟨g0, 0, e1, e3, by rw [Nat.zero_add]; exact e4 k hk⟩
theorem OwnSt.sta {C : Nat} {w : World} {sa ra wa va : Option Addr} {sc : Nat} {l : List TxA} {sh : Nat} {S : SA} {g0 c1 c2 c3 hi gr gw gv : Nat} {Br Bw Bv : Nat → Nat} (h : OwnSt C w sa ra wa va sc l sh S g0 c1 c2 c3 hi gr gw gv Br Bw Bv) (h0 : 0 < sh) : Sta w sa ra wa va S := by
 have k2 := h.h2
 have k3 := h.h3
 have k4 := h.h4
 have k5 := h.h5
 refine ⟨h.ints, fun i hi => ?_, fun i hi => ?_, fun i hi => ?_⟩
 ·rw [h.f.rd] at hi
  obtain ⟨b, off, b', off', c', e, q1, q2, q3, q4⟩ := h.rd.isBR h0 (by omega) i hi
  refine ⟨b, off, some ⟨b', off', none⟩, c', e, q1.2, by rw [h.f.rn i hi]; exact q3, fun k hk => ?_, fun e => by cases e⟩
  rw [h.f.rn i hi] at hk
  exact ⟨b', off', rfl, q2.2, q4 k hk⟩
 ·rw [h.f.wr] at hi
  obtain ⟨b, off, b', off', c', e, q1, q2, q3, q4⟩ := h.wr.isBR h0 (by omega) i hi
  refine ⟨b, off, some ⟨b', off', none⟩, c', e, q1.2, by rw [h.f.wn i hi]; exact q3, fun k hk => ?_, fun e => by cases e⟩
  rw [h.f.wn i hi] at hk
  exact ⟨b', off', rfl, q2.2, q4 k hk⟩
 ·rw [h.f.vs] at hi
  obtain ⟨b, off, a', c', e, q1, q2, q3, q4, _, q5⟩ := h.vs.isIR h.f.vn (by omega) i hi
  exact ⟨b, off, a', c', e, q1.2, by rw [h.f.vn i hi]; exact q2, q4, q5⟩
theorem OwnSt.low {C C' : Nat} {w : World} {sa ra wa va : Option Addr} {sc : Nat} {l : List TxA} {sh : Nat} {S : SA} {g0 c1 c2 c3 hi gr gw gv : Nat} {Br Bw Bv : Nat → Nat} (h : OwnSt C w sa ra wa va sc l sh S g0 c1 c2 c3 hi gr gw gv Br Bw Bv) (hc : C' ≤ C) : OwnSt C' w sa ra wa va sc l sh S g0 c1 c2 c3 hi gr gw gv Br Bw Bv :=
 ⟨⟨fun hn => ⟨(h.st.e hn).1, Nat.le_trans hc (h.st.e hn).2.1, (h.st.e hn).2.2⟩, h.st.z, fun ad e => Nat.le_trans hc (h.st.lo ad e)⟩, ⟨Nat.le_trans hc h.h1.1, h.h1.2⟩, h.h2, h.h3, h.h4, h.h5, h.rd, h.wr, h.vs, h.f⟩
variable (sa ra wa va : Option Addr) (sc rc tc vc : Nat) (l : List TxA) (sh : Nat) (S : SA)
set_option maxHeartbeats 4000000 in
theorem copyOf_own (w : World) (h0 : 0 < sh) (h4 : sh ≤ 4) (h8 : l.length ≤ 8) (hr4 : ∀ i, i < l.length → (gX l i).rs.length ≤ 4) (hf : Form sh l S) (hs : Sta w sa ra wa va S) :
  Calls Tryz.prog 68 #[.agg #[.slice sa 8 sc, .slice ra l.length rc, .slice wa l.length tc, .slice va l.length vc]] w fun e w' => ∃ sa' ra' wa' va' sc' rc' tc' vc' g0 c1 c2 c3 gr gw gv Br Bw Bv, e = .returned (.agg #[.slice sa' 8 sc', .slice ra' l.length rc', .slice wa' l.length tc', .slice va' l.length vc']) ∧ OwnSt w.heap.size w' sa' ra' wa' va' sc' l sh S g0 c1 c2 c3 w'.heap.size gr gw gv Br Bw Bv ∧ Below w.heap.size w w' := by
 obtain ⟨W, hWe⟩ : ∃ W : World, W = ((w.alloc (.cells #[.slice sa 8 sc, .slice ra l.length rc, .slice wa l.length tc, .slice va l.length vc] 29)).alloc (.cells #[.slice none 0 0, .slice none 0 0, .slice none 0 0, .slice none 0 0] 29)) := ⟨_, rfl⟩
 have hW : Hid (Below w.heap.size w W) := by subst hWe; exact aB (aB (Below.refl _ _) _) _
 have s0 : W.cell? ⟨w.heap.size, 0, none⟩ = some (.slice sa 8 sc) := by subst hWe; exact aA (aB (Below.refl _ _) _) (aE w _ 29 _ 0 _ rfl rfl)
 have s1 : W.cell? ⟨w.heap.size, 1, none⟩ = some (.slice ra l.length rc) := by subst hWe; exact aA (aB (Below.refl _ _) _) (aE w _ 29 _ 1 _ rfl rfl)
 have s2 : W.cell? ⟨w.heap.size, 2, none⟩ = some (.slice wa l.length tc) := by subst hWe; exact aA (aB (Below.refl _ _) _) (aE w _ 29 _ 2 _ rfl rfl)
 have s3 : W.cell? ⟨w.heap.size, 3, none⟩ = some (.slice va l.length vc) := by subst hWe; exact aA (aB (Below.refl _ _) _) (aE w _ 29 _ 3 _ rfl rfl)
 have r0 : ∀ j, j < 4 → W.cell? ⟨w.heap.size + 1, j, none⟩ = some (.slice none 0 0) := by
  subst hWe
  exact fun j hj => by
   match j, hj with
   | 0, _ => exact aE _ _ 29 _ 0 _ (by simp) rfl
   | 1, _ => exact aE _ _ 29 _ 1 _ (by simp) rfl
   | 2, _ => exact aE _ _ 29 _ 2 _ (by simp) rfl
   | 3, _ => exact aE _ _ 29 _ 3 _ (by simp) rfl
 have rf : ∀ j, W.frozen? ⟨w.heap.size + 1, j, none⟩ = false := by subst hWe; exact fun j => by simp
 have sz : Hid (W.heap.size = w.heap.size + 2) := by subst hWe; show _ = _; simp
 have HS : Hid (Sta W sa ra wa va S) := hs.below hW.out
 have R0 : Hid (∀ j, j < 4 → W.cell? ⟨w.heap.size + 1, j, none⟩ = some (.slice none 0 0)) := r0
 have RF : Hid (∀ j, W.frozen? ⟨w.heap.size + 1, j, none⟩ = false) := rf
 have HF : Hid (Form sh l S) := hf
 have HR4 : Hid (∀ i, i < l.length → (gX l i).rs.length ≤ 4) := hr4
 clear hs r0 rf hf hr4
 have HWe : Hid (W = _) := hWe
 clear hWe
 go_enter Tryz.func68, Tryz.ntmps68
 go_upto_region 1 with fail
 rw [← HWe.out]
 clear HWe
 have C1 : Hid (∀ w', Below W.heap.size W w' → Calls Tryz.prog 46 #[.slice sa 8 sc] w' fun e w'' => ∃ a' c' g, e = .returned (.slice a' 8 c') ∧ NewRow w'.heap.size w'' a' c' g 8 (fun k => .int .i64 (S.st.getD k 0)) ∧ Below w'.heap.size w' w'') := fun w' hb => kM 8 (fun k => .int .i64 (S.st.getD k 0)) (fun k _ => ⟨_, rfl⟩) sa sc w' (by decide) (fun k hk => by
  obtain ⟨b, off, e, q1, q2⟩ := (HS.out.below hb).st k (by rw [HF.out.st]; exact hk)
  exact ⟨b, off, e, q1, q2⟩)
 have C2 : Hid (∀ w', Below W.heap.size W w' → Calls Tryz.prog 111 #[.slice ra l.length rc] w' fun e w'' => ∃ a' c' g B, e = .returned (.slice a' l.length c') ∧ OR w'.heap.size w''.heap.size w'' a' l.length (fun _ => sh) (fun i k => .bool (bW S.rd i k)) g B ∧ Below w'.heap.size w' w'') := fun w' hb => qJ l.length (fun _ => sh) (fun i k => .bool (bW S.rd i k)) (fun i k _ _ => ⟨_, rfl⟩) ra rc w' h8 (fun i _ => by omega) (fun i hi => by
  obtain ⟨b, off, b', off', c', e, q1, q2, q3, q4⟩ := (HS.out.below hb).rd.rows HF.out.rd HF.out.rn h0 i hi
  exact ⟨b, off, some ⟨b', off', none⟩, c', e, q1.2, q3, fun k hk => ⟨b', off', rfl, q2.2, q4 k hk⟩⟩)
 have C3 : Hid (∀ w', Below W.heap.size W w' → Calls Tryz.prog 111 #[.slice wa l.length tc] w' fun e w'' => ∃ a' c' g B, e = .returned (.slice a' l.length c') ∧ OR w'.heap.size w''.heap.size w'' a' l.length (fun _ => sh) (fun i k => .bool (bW S.wr i k)) g B ∧ Below w'.heap.size w' w'') := fun w' hb => qJ l.length (fun _ => sh) (fun i k => .bool (bW S.wr i k)) (fun i k _ _ => ⟨_, rfl⟩) wa tc w' h8 (fun i _ => by omega) (fun i hi => by
  obtain ⟨b, off, b', off', c', e, q1, q2, q3, q4⟩ := (HS.out.below hb).wr.rows HF.out.wr HF.out.wn h0 i hi
  exact ⟨b, off, some ⟨b', off', none⟩, c', e, q1.2, q3, fun k hk => ⟨b', off', rfl, q2.2, q4 k hk⟩⟩)
 have C4 : Hid (∀ w', Below W.heap.size W w' → Calls Tryz.prog 112 #[.slice va l.length vc] w' fun e w'' => ∃ a' c' g B, e = .returned (.slice a' l.length c') ∧ OR w'.heap.size w''.heap.size w'' a' l.length (fun i => (gX l i).rs.length) (fun i k => .int .i64 ((S.vs.getD i []).getD k 0)) g B ∧ Below w'.heap.size w' w'') := fun w' hb => copyI_new l.length (fun i => (gX l i).rs.length) (fun i k => .int .i64 ((S.vs.getD i []).getD k 0)) (fun i k _ _ => ⟨_, rfl⟩) va vc w' h8 (fun i hi => by have := HR4.out i hi; omega) (fun i hi => by
  obtain ⟨b, off, a', c', e, q1, q2, q3, q4, _⟩ := (HS.out.below hb).vs.rows HF.out.vs HF.out.vn i hi
  exact ⟨b, off, a', c', e, q1.2, q2, fun k hk => by
   obtain ⟨b', off', e', q5, q6⟩ := q4 k (by rw [q3]; exact hk)
   exact ⟨b', off', e', q5, q6⟩⟩)
 have KS : Hid (∀ w', Below (w.heap.size + 1) W w' → w'.cell? ⟨w.heap.size, 0, none⟩ = some (.slice sa 8 sc) ∧ w'.cell? ⟨w.heap.size, 1, none⟩ = some (.slice ra l.length rc) ∧ w'.cell? ⟨w.heap.size, 2, none⟩ = some (.slice wa l.length tc) ∧ w'.cell? ⟨w.heap.size, 3, none⟩ = some (.slice va l.length vc) ∧ Hid (Below (w.heap.size + 1) W w')) := fun w' hb => ⟨(hb.cell (p := ⟨w.heap.size, 0, none⟩) (by simp)).trans s0, (hb.cell (p := ⟨w.heap.size, 1, none⟩) (by simp)).trans s1, (hb.cell (p := ⟨w.heap.size, 2, none⟩) (by simp)).trans s2, (hb.cell (p := ⟨w.heap.size, 3, none⟩) (by simp)).trans s3, hb⟩
 have UP : Hid (∀ w', Below W.heap.size W w' → Below (w.heap.size + 1) W w') := fun w' hb => hb.mono (by have := sz.out; omega)
 go_region_held3 (fun w' => w'.cell? ⟨w.heap.size, 0, none⟩ = some (.slice sa 8 sc) ∧ w'.cell? ⟨w.heap.size, 1, none⟩ = some (.slice ra l.length rc) ∧ w'.cell? ⟨w.heap.size, 2, none⟩ = some (.slice wa l.length tc) ∧ w'.cell? ⟨w.heap.size, 3, none⟩ = some (.slice va l.length vc) ∧ Hid (Below (w.heap.size + 1) W w'))
  ((refine KS.out _ ?_; first | exact FINB.out | (refine UP.out _ ?_; first | exact aD (Below.refl _ _) | exact D1.out | exact D2.out | exact D3.out | exact D4.out)))
  (first
   | (go_at_call 46; refine (C1.out _ (aD (Below.refl _ _))).mono ?_; rintro e wa1 ⟨a1, k1, g1, rfl, h1, hb1⟩; have D1 : Hid (Below W.heap.size W wa1) := aC (aD (Below.refl _ _)) hb1)
   | (go_at_call_of 111 (Value.slice ra l.length rc); refine (C2.out _ D1.out).mono ?_; rintro e wa2 ⟨a2, k2, g2, B2, rfl, h2, hb2⟩; have D2 : Hid (Below W.heap.size W wa2) := aC D1.out hb2)
   | (go_at_call_of 111 (Value.slice wa l.length tc); refine (C3.out _ D2.out).mono ?_; rintro e wa3 ⟨a3, k3, g3, B3, rfl, h3, hb3⟩; have D3 : Hid (Below W.heap.size W wa3) := aC D2.out hb3)
   | (go_at_call 112; refine (C4.out _ D3.out).mono ?_; rintro e wa4 ⟨a4, k4, g4, B4, rfl, h4', hb4⟩; have D4 : Hid (Below W.heap.size W wa4) := aC D3.out hb4; have t0 : wa4.cell? ⟨w.heap.size + 1, 0, none⟩ = some (.slice none 0 0) := aA D4.out (R0.out 0 (by decide)); have t1 : wa4.cell? ⟨w.heap.size + 1, 1, none⟩ = some (.slice none 0 0) := aA D4.out (R0.out 1 (by decide)); have t2 : wa4.cell? ⟨w.heap.size + 1, 2, none⟩ = some (.slice none 0 0) := aA D4.out (R0.out 2 (by decide)); have t3 : wa4.cell? ⟨w.heap.size + 1, 3, none⟩ = some (.slice none 0 0) := aA D4.out (R0.out 3 (by decide)); have tf : ∀ j, wa4.frozen? ⟨w.heap.size + 1, j, none⟩ = false := (fun j => (D4.out.frozen (p := ⟨w.heap.size + 1, j, none⟩) (by have := sz.out; simp; omega)).trans (RF.out j)); have FINB : Hid (Below (w.heap.size + 1) W ((((wa4.setCell ⟨w.heap.size + 1, 0, none⟩ (.slice a1 8 k1)).setCell ⟨w.heap.size + 1, 1, none⟩ (.slice a2 l.length k2)).setCell ⟨w.heap.size + 1, 2, none⟩ (.slice a3 l.length k3)).setCell ⟨w.heap.size + 1, 3, none⟩ (.slice a4 l.length k4))) := ((((UP.out _ D4.out).setCell (by simp) _).setCell (by simp) _).setCell (by simp) _).setCell (by simp) _))
 all_goals (
  have OWN : Hid (OwnSt (w.heap.size + 2) wa4 a1 a2 a3 a4 k1 l sh S g1 wa1.heap.size wa2.heap.size wa3.heap.size wa4.heap.size g2 g3 g4 B2 B3 B4) := ⟨((h1.below hb2).below hb3).below hb4 |> fun q => ⟨fun hn => ⟨(q.e hn).1, by have k : W.heap.size ≤ g1 := (q.e hn).2.1; have := sz.out; omega, (q.e hn).2.2⟩, q.z, fun ad e => by have k : W.heap.size ≤ ad.block := q.lo ad e; have := sz.out; omega⟩, ⟨by have := D1.out.size; have := sz.out; omega, (h1.e (by decide)).2.2.1⟩, hb2.size, hb3.size, hb4.size, Nat.le_refl _, h2.keep (fun b _ q => ((aC hb3 hb4).block b q)), h3.keep (fun b _ q => hb4.block b q), h4', HF.out⟩
  have u0 : ((((wa4.setCell ⟨w.heap.size + 1, 0, none⟩ (.slice a1 8 k1)).setCell ⟨w.heap.size + 1, 1, none⟩ (.slice a2 l.length k2)).setCell ⟨w.heap.size + 1, 2, none⟩ (.slice a3 l.length k3)).setCell ⟨w.heap.size + 1, 3, none⟩ (.slice a4 l.length k4)).cell? ⟨w.heap.size + 1, 0, none⟩ = some (.slice a1 8 k1) := aH (by decide) (aH (by decide) (aH (by decide) (aK t0)))
  have u1 : ((((wa4.setCell ⟨w.heap.size + 1, 0, none⟩ (.slice a1 8 k1)).setCell ⟨w.heap.size + 1, 1, none⟩ (.slice a2 l.length k2)).setCell ⟨w.heap.size + 1, 2, none⟩ (.slice a3 l.length k3)).setCell ⟨w.heap.size + 1, 3, none⟩ (.slice a4 l.length k4)).cell? ⟨w.heap.size + 1, 1, none⟩ = some (.slice a2 l.length k2) := aH (by decide) (aH (by decide) (aK (aH (by decide) t1)))
  have u2 : ((((wa4.setCell ⟨w.heap.size + 1, 0, none⟩ (.slice a1 8 k1)).setCell ⟨w.heap.size + 1, 1, none⟩ (.slice a2 l.length k2)).setCell ⟨w.heap.size + 1, 2, none⟩ (.slice a3 l.length k3)).setCell ⟨w.heap.size + 1, 3, none⟩ (.slice a4 l.length k4)).cell? ⟨w.heap.size + 1, 2, none⟩ = some (.slice a3 l.length k3) := aH (by decide) (aK (aH (by decide) (aH (by decide) t2)))
  have u3 : ((((wa4.setCell ⟨w.heap.size + 1, 0, none⟩ (.slice a1 8 k1)).setCell ⟨w.heap.size + 1, 1, none⟩ (.slice a2 l.length k2)).setCell ⟨w.heap.size + 1, 2, none⟩ (.slice a3 l.length k3)).setCell ⟨w.heap.size + 1, 3, none⟩ (.slice a4 l.length k4)).cell? ⟨w.heap.size + 1, 3, none⟩ = some (.slice a4 l.length k4) := aK (aH (by decide) (aH (by decide) (aH (by decide) t3)))
  have FO : Hid (OwnSt (w.heap.size + 2) ((((wa4.setCell ⟨w.heap.size + 1, 0, none⟩ (.slice a1 8 k1)).setCell ⟨w.heap.size + 1, 1, none⟩ (.slice a2 l.length k2)).setCell ⟨w.heap.size + 1, 2, none⟩ (.slice a3 l.length k3)).setCell ⟨w.heap.size + 1, 3, none⟩ (.slice a4 l.length k4)) a1 a2 a3 a4 k1 l sh S g1 wa1.heap.size wa2.heap.size wa3.heap.size wa4.heap.size g2 g3 g4 B2 B3 B4) := (((OWN.out.set _ 0 _ (by omega)).set _ 1 _ (by omega)).set _ 2 _ (by omega)).set _ 3 _ (by omega)
  have FB : Hid (Below w.heap.size w ((((wa4.setCell ⟨w.heap.size + 1, 0, none⟩ (.slice a1 8 k1)).setCell ⟨w.heap.size + 1, 1, none⟩ (.slice a2 l.length k2)).setCell ⟨w.heap.size + 1, 2, none⟩ (.slice a3 l.length k3)).setCell ⟨w.heap.size + 1, 3, none⟩ (.slice a4 l.length k4))) := aG (aG (aG (aG (aC hW.out D4.out) (by simp) _) (by simp) _) (by simp) _) (by simp) _
  have SZ : Hid (((((wa4.setCell ⟨w.heap.size + 1, 0, none⟩ (.slice a1 8 k1)).setCell ⟨w.heap.size + 1, 1, none⟩ (.slice a2 l.length k2)).setCell ⟨w.heap.size + 1, 2, none⟩ (.slice a3 l.length k3)).setCell ⟨w.heap.size + 1, 3, none⟩ (.slice a4 l.length k4)).heap.size = wa4.heap.size) := by show _ = _; simp
  clear h1 h2 h3 h4' hb1 hb2 hb3 hb4 D1 D2 D3 D4 OWN t0 t1 t2 t3 tf FINB KS UP C1 C2 C3 C4
  generalize ((((wa4.setCell ⟨w.heap.size + 1, 0, none⟩ (.slice a1 8 k1)).setCell ⟨w.heap.size + 1, 1, none⟩ (.slice a2 l.length k2)).setCell ⟨w.heap.size + 1, 2, none⟩ (.slice a3 l.length k3)).setCell ⟨w.heap.size + 1, 3, none⟩ (.slice a4 l.length k4)) = WF at *
  go_wp2_with fail
  refine bodyPost_ret (v := .agg #[.slice a1 8 k1, .slice a2 l.length k2, .slice a3 l.length k3, .slice a4 l.length k4]) (by simp [results, Tryz.results68, go_sem, u0, u1, u2, u3]) rfl ⟨a1, a2, a3, a4, k1, k2, k3, k4, g1, wa1.heap.size, wa2.heap.size, wa3.heap.size, g2, g3, g4, B2, B3, B4, rfl, ?_, FB.out⟩
  rw [SZ.out]
  exact FO.out.low (by omega))
end Go.Proofs.YtebjkmknhpgemaaGreat
namespace Go.Proofs.YtebjkmknhpgemaaGreat
open Go.RowKit
theorem jD (sh k : Nat) (s : List Int) : ∀ (rs vs : List Int) (i j : Nat), vs.length = rs.length → j < rs.length → (cS sh k s (rs.take i) vs).getD j 0 = if j < i ∧ (rs.getD j 0).toNat % sh = k then getAt s (rs.getD j 0) else vs.getD j 0
 | [], _, _, j, _, hj => absurd hj (Nat.not_lt_zero _)
 | r :: rs, [], i, j, hl, _ => by simp at hl
 | r :: rs, v :: vs, 0, j, _, _ => by simp [cS]
 | r :: rs, v :: vs, i + 1, 0, _, _ => by simp [cS]
 | r :: rs, v :: vs, i + 1, j + 1, hl, hj => by
  have := jD sh k s rs vs i j (by simpa using hl) (by simpa using hj)
  simp only [List.take_succ_cons, cS, List.getD_cons_succ, this, Nat.add_lt_add_iff_right]
theorem kH (sh k : Nat) : ∀ (ks s vs : List Int) (i : Nat), i < ks.length → i < vs.length → bP sh k s (ks.take (i + 1)) (vs.take (i + 1)) = if (ks.getD i 0).toNat % sh = k then (bP sh k s (ks.take i) (vs.take i)).set (ks.getD i 0).toNat (vs.getD i 0) else bP sh k s (ks.take i) (vs.take i)
 | a :: ks, s, v :: vs, 0, _, _ => by simp [bP]
 | a :: ks, s, v :: vs, i + 1, h, h' => by
  simp only [List.take_succ_cons, bP, List.getD_cons_succ]
  exact kH sh k ks _ vs i (by simpa using h) (by simpa using h')
 | [], _, _, _, h, _ => absurd h (Nat.not_lt_zero _)
 | _ :: _, _, [], _, _, h => absurd h (Nat.not_lt_zero _)
theorem mB (sh k : Nat) : ∀ (ks s vs : List Int), vs.length ≤ ks.length → bP sh k s (ks.take vs.length) vs = bP sh k s ks vs
 | [], s, vs, _ => by simp
 | a :: ks, s, [], _ => by simp [bP]
 | a :: ks, s, v :: vs, h => by
  simp only [List.length_cons, List.take_succ_cons, bP]
  exact mB sh k ks _ vs (by simpa using h)
theorem OwnSt.setRd {C : Nat} {w : World} {sa ra wa va : Option Addr} {sc : Nat} {l : List TxA} {sh : Nat} {S : SA} {g0 c1 c2 c3 hi gr gw gv : Nat} {Br Bw Bv : Nat → Nat} (h : OwnSt C w sa ra wa va sc l sh S g0 c1 c2 c3 hi gr gw gv Br Bw Bv) {n k : Nat} (hn : n < l.length) (hk : k < sh) : OwnSt C (w.setCell ⟨Br n, k, none⟩ (.bool true)) sa ra wa va sc l sh { S with rd := cM S.rd n k } g0 c1 c2 c3 hi gr gw gv Br Bw Bv := by
 obtain ⟨b1, b2, _⟩ := h.rd.b n hn (Nat.lt_of_le_of_lt (Nat.zero_le _) hk)
 have k1 := h.h1
 have k2 := h.h2
 have k3 := h.h3
 have k4 := h.h4
 refine ⟨h.st.keep (dN _ _ _ _ _ (by omega)) (by rw [World.size_setCell]; exact Nat.le_refl _), k1, k2, k3, k4, by rw [World.size_setCell]; exact h.h5, h.rd.set hn hk (.bool true) (fun i j hi hj => ?_), h.wr.far _ _ _ (by omega), h.vs.far _ _ _ (by omega), ?_⟩
 ·rw [lT (by rw [h.f.rd]; exact hn) (by rw [h.f.rn n hn]; exact hk)]
  by_cases e : i = n ∧ j = k
  ·rw [if_pos ⟨e.1.symm, e.2.symm⟩, if_pos e]
  ·rw [if_neg (fun q => e ⟨q.1.symm, q.2.symm⟩), if_neg e]
 ·exact ⟨h.f.st, by rw [kV]; exact h.f.rd, h.f.wr, h.f.vs, fun i hi => by rw [kU]; exact h.f.rn i hi, h.f.wn, h.f.vn⟩
theorem OwnSt.setWr {C : Nat} {w : World} {sa ra wa va : Option Addr} {sc : Nat} {l : List TxA} {sh : Nat} {S : SA} {g0 c1 c2 c3 hi gr gw gv : Nat} {Br Bw Bv : Nat → Nat} (h : OwnSt C w sa ra wa va sc l sh S g0 c1 c2 c3 hi gr gw gv Br Bw Bv) {n k : Nat} (hn : n < l.length) (hk : k < sh) : OwnSt C (w.setCell ⟨Bw n, k, none⟩ (.bool true)) sa ra wa va sc l sh { S with wr := cM S.wr n k } g0 c1 c2 c3 hi gr gw gv Br Bw Bv := by
 obtain ⟨b1, b2, _⟩ := h.wr.b n hn (Nat.lt_of_le_of_lt (Nat.zero_le _) hk)
 have k1 := h.h1
 have k2 := h.h2
 have k3 := h.h3
 have k4 := h.h4
 refine ⟨h.st.keep (dN _ _ _ _ _ (by omega)) (by rw [World.size_setCell]; exact Nat.le_refl _), k1, k2, k3, k4, by rw [World.size_setCell]; exact h.h5, h.rd.far _ _ _ (by omega), h.wr.set hn hk (.bool true) (fun i j hi hj => ?_), h.vs.far _ _ _ (by omega), ?_⟩
 ·rw [lT (by rw [h.f.wr]; exact hn) (by rw [h.f.wn n hn]; exact hk)]
  by_cases e : i = n ∧ j = k
  ·rw [if_pos ⟨e.1.symm, e.2.symm⟩, if_pos e]
  ·rw [if_neg (fun q => e ⟨q.1.symm, q.2.symm⟩), if_neg e]
 ·exact ⟨h.f.st, h.f.rd, by rw [kV]; exact h.f.wr, h.f.vs, h.f.rn, fun i hi => by rw [kU]; exact h.f.wn i hi, h.f.vn⟩
theorem OwnSt.setV {C : Nat} {w : World} {sa ra wa va : Option Addr} {sc : Nat} {l : List TxA} {sh : Nat} {S : SA} {g0 c1 c2 c3 hi gr gw gv : Nat} {Br Bw Bv : Nat → Nat} (h : OwnSt C w sa ra wa va sc l sh S g0 c1 c2 c3 hi gr gw gv Br Bw Bv) {n i : Nat} (hn : n < l.length) (hi' : i < (gX l n).rs.length) (u : Int) (V : List (List Int)) (hV : ∀ a j, a < l.length → j < (gX l a).rs.length → (V.getD a []).getD j 0 = if a = n ∧ j = i then u else (S.vs.getD a []).getD j 0) (hl : V.length = l.length) (hr : ∀ a, a < l.length → (V.getD a []).length = (gX l a).rs.length) : OwnSt C (w.setCell ⟨Bv n, i, none⟩ (.int .i64 u)) sa ra wa va sc l sh { S with vs := V } g0 c1 c2 c3 hi gr gw gv Br Bw Bv := by
 obtain ⟨b1, b2, _⟩ := h.vs.b n hn (Nat.lt_of_le_of_lt (Nat.zero_le _) hi')
 have k1 := h.h1
 have k2 := h.h2
 have k3 := h.h3
 have k4 := h.h4
 refine ⟨h.st.keep (dN _ _ _ _ _ (by omega)) (by rw [World.size_setCell]; exact Nat.le_refl _), k1, k2, k3, k4, by rw [World.size_setCell]; exact h.h5, h.rd.far _ _ _ (by omega), h.wr.far _ _ _ (by omega), h.vs.set hn hi' (.int .i64 u) (fun a j ha hj => ?_), ?_⟩
 ·show Value.int .i64 ((V.getD a []).getD j 0) = _
  rw [hV a j ha hj]
  by_cases e : a = n ∧ j = i
  ·rw [if_pos e, if_pos e]
  ·rw [if_neg e, if_neg e]
 ·exact ⟨h.f.st, h.f.rd, h.f.wr, hl, h.f.rn, h.f.wn, hr⟩
theorem OwnSt.asV {C : Nat} {w : World} {sa ra wa va : Option Addr} {sc : Nat} {l : List TxA} {sh : Nat} {S : SA} {g0 c1 c2 c3 hi gr gw gv : Nat} {Br Bw Bv : Nat → Nat} (h : OwnSt C w sa ra wa va sc l sh S g0 c1 c2 c3 hi gr gw gv Br Bw Bv) (V : List (List Int)) (hV : ∀ a j, a < l.length → j < (gX l a).rs.length → (V.getD a []).getD j 0 = (S.vs.getD a []).getD j 0) (hl : V.length = l.length) (hr : ∀ a, a < l.length → (V.getD a []).length = (gX l a).rs.length) : OwnSt C w sa ra wa va sc l sh { S with vs := V } g0 c1 c2 c3 hi gr gw gv Br Bw Bv :=
 ⟨h.st, h.h1, h.h2, h.h3, h.h4, h.h5, h.rd, h.wr, h.vs.congr (fun a j ha hj => by show Value.int .i64 ((V.getD a []).getD j 0) = _; rw [hV a j ha hj]), ⟨h.f.st, h.f.rd, h.f.wr, hl, h.f.rn, h.f.wn, hr⟩⟩
theorem OwnSt.setS {C : Nat} {w : World} {sa ra wa va : Option Addr} {sc : Nat} {l : List TxA} {sh : Nat} {S : SA} {g0 c1 c2 c3 hi gr gw gv : Nat} {Br Bw Bv : Nat → Nat} (h : OwnSt C w sa ra wa va sc l sh S g0 c1 c2 c3 hi gr gw gv Br Bw Bv) {c : Nat} (hc : c < 8) (u : Int) : OwnSt C (w.setCell ⟨g0, c, none⟩ (.int .i64 u)) sa ra wa va sc l sh { S with st := S.st.set c u } g0 c1 c2 c3 hi gr gw gv Br Bw Bv := by
 obtain ⟨e1, e2, e3, e4, e5⟩ := h.st.e (by decide)
 have k1 := h.h1
 have k2 := h.h2
 have k3 := h.h3
 have k4 := h.h4
 refine ⟨⟨fun _ => ⟨e1, e2, by rw [World.size_setCell]; exact e3, fun k hk => ?_, fun k => by rw [World.frozen?_setCell]; exact e5 k⟩, h.st.z, h.st.lo⟩, k1, k2, k3, k4, by rw [World.size_setCell]; exact h.h5, h.rd.far _ _ _ (by omega), h.wr.far _ _ _ (by omega), h.vs.far _ _ _ (by omega), ⟨by rw [List.length_set]; exact h.f.st, h.f.rd, h.f.wr, h.f.vs, h.f.rn, h.f.wn, h.f.vn⟩⟩
 show _ = some (Value.int .i64 ((S.st.set c u).getD k 0))
 by_cases e : k = c
 ·subst e
  rw [dA _ _ _ _ _ (by rw [h.f.st]; exact hk), if_pos rfl]
  exact aK (e4 k hk)
 ·rw [dA _ _ _ _ _ (by rw [h.f.st]; exact hc), if_neg (fun q => e q.symm)]
  exact aH e (e4 k hk)
structure DoAt (w0 w : World) (C h p : Nat) (la : Option Addr) (lc rc tc vc : Nat) (sa ra wa va : Option Addr) (sc : Nat) (l : List TxA) (sh : Nat) (S : SA) (g0 c1 c2 c3 hi gr gw gv : Nat) (Br Bw Bv : Nat → Nat) : Prop where
 h0 : w.cell? ⟨h, 0, none⟩ = some (.pointer (some ⟨p, 0, none⟩))
 h1 : w.cell? ⟨h, 1, none⟩ = some (.slice sa 8 sc)
 h2 : w.cell? ⟨h, 2, none⟩ = some (.slice ra l.length rc)
 h3 : w.cell? ⟨h, 3, none⟩ = some (.slice wa l.length tc)
 h4 : w.cell? ⟨h, 4, none⟩ = some (.slice va l.length vc)
 p0 : w.cell? ⟨p, 0, none⟩ = some (.int .i64 sh)
 p1 : w.cell? ⟨p, 1, none⟩ = some (.slice la l.length lc)
 hc : h < C
 pc : p < C
 tx : IsTxs w0 la l
 bl : Below w0.heap.size w0 w
 cw : w0.heap.size ≤ C
 own : OwnSt C w sa ra wa va sc l sh S g0 c1 c2 c3 hi gr gw gv Br Bw Bv
 s0 : 0 < sh
 s4 : sh ≤ 4
 l8 : l.length ≤ 8
 ck : fL l = 0
theorem DoAt.to {w0 w w' : World} {C h p : Nat} {la : Option Addr} {lc rc tc vc : Nat} {sa ra wa va : Option Addr} {sc : Nat} {l : List TxA} {sh : Nat} {S : SA} {g0 c1 c2 c3 hi gr gw gv : Nat} {Br Bw Bv : Nat → Nat} {S' : SA} (D : DoAt w0 w C h p la lc rc tc vc sa ra wa va sc l sh S g0 c1 c2 c3 hi gr gw gv Br Bw Bv) (hb : Below C w w') (ho : OwnSt C w' sa ra wa va sc l sh S' g0 c1 c2 c3 hi gr gw gv Br Bw Bv) : DoAt w0 w' C h p la lc rc tc vc sa ra wa va sc l sh S' g0 c1 c2 c3 hi gr gw gv Br Bw Bv := by
 have q := D.hc
 have q' := D.pc
 exact ⟨(hb.cell (p := ⟨h, 0, none⟩) q).trans D.h0, (hb.cell (p := ⟨h, 1, none⟩) q).trans D.h1, (hb.cell (p := ⟨h, 2, none⟩) q).trans D.h2, (hb.cell (p := ⟨h, 3, none⟩) q).trans D.h3, (hb.cell (p := ⟨h, 4, none⟩) q).trans D.h4, (hb.cell (p := ⟨p, 0, none⟩) q').trans D.p0, (hb.cell (p := ⟨p, 1, none⟩) q').trans D.p1, q, q', D.tx, D.bl.trans (hb.mono D.cw), D.cw, ho, D.s0, D.s4, D.l8, D.ck⟩
theorem DoAt.below {w0 w w' : World} {C h p : Nat} {la : Option Addr} {lc rc tc vc : Nat} {sa ra wa va : Option Addr} {sc : Nat} {l : List TxA} {sh : Nat} {S : SA} {g0 c1 c2 c3 hi gr gw gv : Nat} {Br Bw Bv : Nat → Nat} (D : DoAt w0 w C h p la lc rc tc vc sa ra wa va sc l sh S g0 c1 c2 c3 hi gr gw gv Br Bw Bv) (hb : Below w.heap.size w w') : DoAt w0 w' C h p la lc rc tc vc sa ra wa va sc l sh S g0 c1 c2 c3 hi gr gw gv Br Bw Bv := by
 have e := D.own.h1
 have e5 := D.own.h5
 have e2 := D.own.h2
 have e3 := D.own.h3
 have e4 := D.own.h4
 exact D.to (hb.mono (by omega)) (D.own.below hb)
end Go.Proofs.YtebjkmknhpgemaaGreat
namespace Go.Proofs.YtebjkmknhpgemaaGreat
open Go.RowKit
theorem DoAt.reads {w0 w : World} {C h p : Nat} {la : Option Addr} {lc rc tc vc : Nat} {sa ra wa va : Option Addr} {sc : Nat} {l : List TxA} {sh : Nat} {S : SA} {g0 c1 c2 c3 hi gr gw gv : Nat} {Br Bw Bv : Nat → Nat} (D : DoAt w0 w C h p la lc rc tc vc sa ra wa va sc l sh S g0 c1 c2 c3 hi gr gw gv Br Bw Bv) {n : Nat} (hn : n < l.length) : ∃ b off, la = some ⟨b, off, none⟩ ∧ w.cell? ⟨b, off + n * 3, none⟩ = some (.slice (gX l n).ra (gX l n).rs.length (gX l n).rc) ∧ w.cell? ⟨b, off + n * 3 + 1, none⟩ = some (.slice (gX l n).ga (gX l n).gs.length (gX l n).gc) ∧ w.cell? ⟨b, off + n * 3 + 2, none⟩ = some (.slice (gX l n).sa (gX l n).ss.length (gX l n).sc) ∧ IsTx w (gX l n).ra (gX l n).ga (gX l n).sa (gX l n).rs (gX l n).gs (gX l n).ss := by
 obtain ⟨b, off, e, _, c0, c1, c2, hx⟩ := (D.tx.below D.bl) n hn
 exact ⟨b, off, e, c0, c1, c2, hx.t⟩
theorem DoAt.good {w0 w : World} {C h p : Nat} {la : Option Addr} {lc rc tc vc : Nat} {sa ra wa va : Option Addr} {sc : Nat} {l : List TxA} {sh : Nat} {S : SA} {g0 c1 c2 c3 hi gr gw gv : Nat} {Br Bw Bv : Nat → Nat} (D : DoAt w0 w C h p la lc rc tc vc sa ra wa va sc l sh S g0 c1 c2 c3 hi gr gw gv Br Bw Bv) {n : Nat} (hn : n < l.length) : Good (gX l n) := hI (cI D.ck n hn)
theorem DoAt.cs {w0 w : World} {C h p : Nat} {la : Option Addr} {lc rc tc vc : Nat} {sa ra wa va : Option Addr} {sc : Nat} {l : List TxA} {sh : Nat} {S : SA} {g0 c1 c2 c3 hi gr gw gv : Nat} {Br Bw Bv : Nat → Nat} (D : DoAt w0 w C h p la lc rc tc vc sa ra wa va sc l sh S g0 c1 c2 c3 hi gr gw gv Br Bw Bv) : C ≤ w.heap.size := by
 have e := D.own.h1
 have e5 := D.own.h5
 have e2 := D.own.h2
 have e3 := D.own.h3
 have e4 := D.own.h4
 omega
variable {w0 w : World} {C h p : Nat} {la : Option Addr} {lc rc tc vc : Nat} {sa ra wa va : Option Addr} {sc : Nat} {l : List TxA} {sh : Nat} {S : SA} {g0 c1 c2 c3 hi gr gw gv : Nat} {Br Bw Bv : Nat → Nat}
set_option maxHeartbeats 4000000 in
theorem read_at (D : DoAt w0 w C h p la lc rc tc vc sa ra wa va sc l sh S g0 c1 c2 c3 hi gr gw gv Br Bw Bv) {n k : Nat} (hn : n < l.length) (hk : k < sh) :
  Calls Tryz.prog 69 #[.pointer (some ⟨h, 0, none⟩), .int .i64 n, .int .i64 k] w fun e w' => e = .returned (.tuple #[]) ∧ DoAt w0 w' C h p la lc rc tc vc sa ra wa va sc l sh (fG sh l S n k) g0 c1 c2 c3 hi gr gw gv Br Bw Bv ∧ Below C w w' := by
 have h1 := D.own.h1
 have h2 := D.own.h2
 have h3 := D.own.h3
 have h4 := D.own.h4
 have h5 := D.own.h5
 have hl8 := D.l8
 have hs4 := D.s4
 have hs0 := D.s0
 have W1O := D.own.setRd hn hk
 have W1B : Below C w (w.setCell ⟨Br n, k, none⟩ (.bool true)) := (Below.refl _ _).setCell (by obtain ⟨b1, _⟩ := D.own.rd.b n hn hs0; show C ≤ Br n; omega) _
 have D1 : Hid (DoAt w0 (w.setCell ⟨Br n, k, none⟩ (.bool true)) C h p la lc rc tc vc sa ra wa va sc l sh { S with rd := cM S.rd n k } g0 c1 c2 c3 hi gr gw gv Br Bw Bv) := D.to W1B W1O
 have B1 : Hid (Below C w (w.setCell ⟨Br n, k, none⟩ (.bool true))) := W1B
 have HG : Hid (Good (gX l n)) := D.good hn
 obtain ⟨era, _, _⟩ := D.own.rd.ad (by omega)
 obtain ⟨a', c', r0, r1, _, _⟩ := D.own.rd.o n hn
 have r1 := r1 hs0
 subst r1
 have r2 := D.own.rd.c n k hn hk
 have r3 := D.own.rd.f n k hn hs0
 have x0 := D.h0
 have x2 := D.h2
 rw [era] at x2
 have HF : Hid (Form sh l S) := D.own.f
 clear W1B W1O D h1 h2 h3 h4 h5 era
 go_enter Tryz.func69, Tryz.ntmps69
 go_upto_region 1 with fail
 clear x0 x2 r0 r2 r3
 generalize (w.setCell ⟨Br n, k, none⟩ (.bool true)) = W at *
 obtain ⟨b, off, ela, q0, _, _, hx⟩ := D1.out.reads hn
 have x0 := D1.out.h0
 have x1 := D1.out.p1
 rw [ela] at x1
 have hl4 := hx.lr
 unfold maxLen at hl4
 clear hx
 have HVL : Hid ((S.vs.getD n []).length = (gX l n).rs.length) := HF.out.vn n hn
 have DS : Hid (DoAt w0 W C h p la lc rc tc vc sa ra wa va sc l sh { S with rd := cM S.rd n k, vs := S.vs.set n (cS sh k S.st ((gX l n).rs.take 0) (S.vs.getD n [])) } g0 c1 c2 c3 hi gr gw gv Br Bw Bv) := by
  have e : S.vs.set n (cS sh k S.st ((gX l n).rs.take 0) (S.vs.getD n [])) = S.vs := by
   show S.vs.set n (cS sh k S.st [] (S.vs.getD n [])) = S.vs
   have : cS sh k S.st [] (S.vs.getD n []) = S.vs.getD n [] := by cases S.vs.getD n [] <;> rfl
   rw [this]
   have hnv : n < S.vs.length := by rw [HF.out.vs]; exact hn
   rw [List.getD_eq_getElem?_getD, List.getElem?_eq_getElem hnv]
   simp
  rw [e]
  exact D1.out
 have FIN : Hid ((gX l n).rs.take (gX l n).rs.length = (gX l n).rs) := List.take_length
 have HRL : Hid (∀ i, i < (gX l n).rs.length → (gX l n).rs.getD i 0 ∈ (gX l n).rs) := fun i hi => by
  rw [List.getD_eq_getElem?_getD, List.getElem?_eq_getElem hi]
  exact List.getElem_mem hi
 obtain ⟨xa, exa⟩ : ∃ xa, (gX l n).ra = xa := ⟨_, rfl⟩
 rw [exa] at q0
 have EXA : Hid ((gX l n).ra = xa) := exa
 clear exa
 generalize hN : (gX l n).rs.length = N at *
 go_wp2
 go_loopw [6, 7, 30] (fun _ _ i wr => ∃ j : Nat, j ≤ N ∧ i = .int .i64 j ∧ Hid (DoAt w0 wr C h p la lc rc tc vc sa ra wa va sc l sh { S with rd := cM S.rd n k, vs := S.vs.set n (cS sh k S.st ((gX l n).rs.take j) (S.vs.getD n [])) } g0 c1 c2 c3 hi gr gw gv Br Bw Bv) ∧ Hid (Below C w wr)) (fun _ _ i _ => N - (intOf i).toNat)
 case atStart => exact ⟨0, Nat.zero_le _, rfl, DS, B1⟩
 case round =>
  obtain ⟨j, hj, rfl, hD, hB⟩ := hrel
  clear DS D1 B1 x0 x1 ela
  by_cases hlt : j < N
  ·have i1 : (j : Int) < (N : Int) := by omega
   obtain ⟨_, _, _, _, _, _, hx⟩ := hD.out.reads hn
   obtain ⟨b', off', ea, _, k0⟩ := hx.r j (by omega)
   clear hx
   have ea := EXA.out.symm.trans ea
   subst ea
   have HT : Hid ((gX l n).rs.getD j 0 ∈ (gX l n).rs) := HRL.out j hlt
   obtain ⟨hz, hz'⟩ := HG.out.r _ HT.out
   have HZ : Hid ((gX l n).rs.getD j 0 = (gX l n).rs.getD j 0) := rfl
   generalize hz0 : (gX l n).rs.getD j 0 = z at hz hz' k0 HT
   obtain ⟨c, rfl⟩ := Int.eq_ofNat_of_zero_le hz
   have hc8 : c < 8 := by omega
   have HC : Hid ((gX l n).rs.getD j 0 = (c : Int)) := hz0
   have CL : Hid (Calls Tryz.prog 113 #[.pointer (some ⟨h, 0, none⟩), .int .i64 c, .int .i64 k] wr fun e w' => e = .returned (.bool (c % sh == k)) ∧ Below wr.heap.size wr w') := qY wr h p sh hD.out.h0 hD.out.p0 hs0 hs4 hc8
   have hVL : Hid (∀ V : List Int, V.length = N → ∀ a, a < l.length → ((S.vs.set n V).getD a []).length = (gX l a).rs.length) := fun V hV a ha => by
    rw [dA _ _ _ _ _ (by rw [HF.out.vs]; exact hn)]
    by_cases e : n = a
    ·subst e; rw [if_pos rfl, hV, hN]
    ·rw [if_neg e]; exact HF.out.vn a ha
   have hML : ∀ i, (cS sh k S.st ((gX l n).rs.take i) (S.vs.getD n [])).length = N := fun i => by rw [lB, HVL.out]
   have hVg : ∀ a m, a < l.length → m < (gX l a).rs.length → ((S.vs.set n (cS sh k S.st ((gX l n).rs.take (j + 1)) (S.vs.getD n []))).getD a []).getD m 0 = if (c % sh == k) = true ∧ a = n ∧ m = j then S.st.getD c 0 else ((S.vs.set n (cS sh k S.st ((gX l n).rs.take j) (S.vs.getD n []))).getD a []).getD m 0 := fun a m ha hm => by
    rw [dA _ _ _ _ _ (by rw [HF.out.vs]; exact hn), dA _ _ _ _ _ (by rw [HF.out.vs]; exact hn)]
    by_cases e : n = a
    ·subst e
     rw [if_pos rfl, if_pos rfl, jD _ _ _ _ _ _ _ (by rw [HVL.out, hN]) hm, jD _ _ _ _ _ _ _ (by rw [HVL.out, hN]) hm]
     by_cases em : m = j
     ·subst em
      simp only [HC.out, Int.toNat_natCast, Nat.lt_succ_self, true_and, Nat.lt_irrefl, false_and, if_false, and_true, beq_iff_eq]
      rfl
     ·have e1 : (m < j + 1) = (m < j) := by simp; omega
      simp only [e1, em, and_false, if_false]
    ·rw [if_neg e, if_neg e, if_neg (fun q => e q.2.1.symm)]
   have HV : Hid (∀ a m, a < l.length → m < (gX l a).rs.length → ((S.vs.set n (cS sh k S.st ((gX l n).rs.take (j + 1)) (S.vs.getD n []))).getD a []).getD m 0 = if (c % sh == k) = true ∧ a = n ∧ m = j then S.st.getD c 0 else ((S.vs.set n (cS sh k S.st ((gX l n).rs.take j) (S.vs.getD n []))).getD a []).getD m 0) := hVg
   have HML : Hid (∀ i, (cS sh k S.st ((gX l n).rs.take i) (S.vs.getD n [])).length = N) := hML
   have HSL : Hid (∀ V : List Int, (S.vs.set n V).length = l.length) := fun V => by rw [List.length_set]; exact HF.out.vs
   clear hML hVg HZ hz0 HT HRL hz hz'
   go_wp2_with fail
   refine CL.out.mono ?_
   rintro e w1 ⟨rfl, hb1⟩
   have E1 : Hid (DoAt w0 w1 C h p la lc rc tc vc sa ra wa va sc l sh { S with rd := cM S.rd n k, vs := S.vs.set n (cS sh k S.st ((gX l n).rs.take j) (S.vs.getD n [])) } g0 c1 c2 c3 hi gr gw gv Br Bw Bv) := hD.out.below hb1
   have F1 : Hid (Below C w w1) := hB.out.trans (hb1.mono (by have := hD.out.own.h1; have := hD.out.own.h2; have := hD.out.own.h3; have := hD.out.own.h4; have := hD.out.own.h5; omega))
   clear CL hb1 hD hB k0
   generalize hq : (c % sh == k) = q at *
   cases q
   ·have E2 : Hid (DoAt w0 w1 C h p la lc rc tc vc sa ra wa va sc l sh { S with rd := cM S.rd n k, vs := S.vs.set n (cS sh k S.st ((gX l n).rs.take (j + 1)) (S.vs.getD n [])) } g0 c1 c2 c3 hi gr gw gv Br Bw Bv) := E1.out.to (Below.refl _ _) (E1.out.own.asV (S.vs.set n (cS sh k S.st ((gX l n).rs.take (j + 1)) (S.vs.getD n []))) (fun a m ha hm => by rw [HV.out a m ha hm]; simp) (HSL.out _) (hVL.out _ (HML.out _)))
    clear E1 HV HSL hVL HML
    go_wp2
    go_roundw
    case rel => exact ⟨j + 1, by omega, by go_num, E2, F1⟩
    case measure => simp [intOf]; omega
   ·have E2 : Hid (DoAt w0 (w1.setCell ⟨Bv n, j, none⟩ (.int .i64 (S.st.getD c 0))) C h p la lc rc tc vc sa ra wa va sc l sh { S with rd := cM S.rd n k, vs := S.vs.set n (cS sh k S.st ((gX l n).rs.take (j + 1)) (S.vs.getD n [])) } g0 c1 c2 c3 hi gr gw gv Br Bw Bv ∧ Below C w (w1.setCell ⟨Bv n, j, none⟩ (.int .i64 (S.st.getD c 0)))) := by
     have o := E1.out.own.setV hn (by rw [hN]; exact hlt) (S.st.getD c 0) (S.vs.set n (cS sh k S.st ((gX l n).rs.take (j + 1)) (S.vs.getD n []))) (fun a m ha hm => by rw [HV.out a m ha hm]; simp) (HSL.out _) (hVL.out _ (HML.out _))
     have g1 := E1.out.own.h1
     have g2 := E1.out.own.h2
     have g3 := E1.out.own.h3
     obtain ⟨b1, _⟩ := E1.out.own.vs.b n hn (by rw [hN]; omega)
     exact ⟨E1.out.to ((Below.refl _ _).setCell (by show C ≤ Bv n; omega) _) o, F1.out.setCell (by show C ≤ Bv n; omega) _⟩
    have y0 := E1.out.h0
    have HU : Hid (S.st.getD c 0 = S.st.getD c 0) := rfl
    have y1 := E1.out.h1
    have y4 := E1.out.h4
    obtain ⟨e1, _, _, e4, e5⟩ := E1.out.own.st.e (by decide)
    have z0 : w1.cell? ⟨g0, c, none⟩ = some (.int .i64 (S.st.getD c 0)) := e4 c hc8
    obtain ⟨f1, _, _⟩ := E1.out.own.vs.ad (by omega)
    obtain ⟨a', c', v0, v1, _, _⟩ := E1.out.own.vs.o n hn
    have v1 := v1 (by rw [hN]; omega)
    have v2 := E1.out.own.vs.c n j hn (by rw [hN]; exact hlt)
    have v3 := E1.out.own.vs.f n j hn (by rw [hN]; omega)
    rw [v1, hN] at v0
    rw [e1] at y1
    rw [f1] at y4
    clear E1 HV HSL hVL HML e4 e5 e1 f1 v1 HU
    generalize S.st.getD c 0 = uu at *
    go_wp2_with fail
    go_region
    all_goals go_wp2
    all_goals (
     go_roundw
     case rel => exact ⟨j + 1, by omega, by go_num, E2.out.1.below (aD (Below.refl _ _)), E2.out.2.trans ((aD (Below.refl _ _)).mono E2.out.1.cs)⟩
     case measure => simp [intOf]; omega)
  ·have hjN : j = N := by omega
   subst hjN
   rw [FIN.out] at hD
   go_wp2
   go_end0
   exact ⟨rfl, hD.out, hB.out⟩
end Go.Proofs.YtebjkmknhpgemaaGreat
