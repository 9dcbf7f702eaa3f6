/- Conditions: those that each theorem states. -/
import Derived.Test.YtcgpkonfneofdaaGreatDoorSDkD
import Derived.Test.YtcgpkonfneofdaaGreatDoorSHallK
set_option maxRecDepth 100000
set_option maxHeartbeats 8000000
namespace Go.Proofs.YtcgpkonfneofdaaGreatDoor
open Go.RowKit
section
theorem OR.mono {lo hi lo' hi':Nat} {w:World} {a:Option Addr} {n:Nat} {len:Nat→Nat} {G:Nat→Nat→Value} {g:Nat} {B:Nat→Nat} (h:OR lo hi w a n len G g B) (h1:lo'≤lo) (h2:hi≤hi'):OR lo' hi' w a n len G g B:=
 ⟨fun hn=>⟨(h.ad hn).1,Nat.le_trans h1 (h.ad hn).2.1,Nat.lt_of_lt_of_le (h.ad hn).2.2 h2⟩,fun i hi=>by
  obtain⟨a',c,e1,e2,e3,e4⟩:=h.o i hi
  exact⟨a',c,e1,e2,e3,fun ad e=>Nat.le_trans h1 (e4 ad e)⟩,fun i hi hl=>⟨Nat.le_trans h1 (h.b i hi hl).1,Nat.lt_of_lt_of_le (h.b i hi hl).2.1 h2,(h.b i hi hl).2.2⟩,h.d,h.c,h.f⟩
theorem OR.keep {lo hi:Nat} {w w':World} {a:Option Addr} {n:Nat} {len:Nat→Nat} {G:Nat→Nat→Value} {g:Nat} {B:Nat→Nat} (h:OR lo hi w a n len G g B) (hb:∀b,lo≤b→b<hi→w'.heap[b]?=w.heap[b]?):OR lo hi w' a n len G g B:=
 ⟨h.ad,fun i hi=>by
  obtain⟨a',c,e1,e2,e3,e4⟩:=h.o i hi
  obtain⟨_,a1,a2⟩:=h.ad (Nat.lt_of_le_of_lt (Nat.zero_le _) hi)
  exact⟨a',c,(World.cell?_of_block (a:=⟨g,i,none⟩) (hb g a1 a2)).trans e1,e2,e3,e4⟩,h.b,h.d,fun i k hi hk=>by
  obtain⟨b1,b2,_⟩:=h.b i hi (Nat.lt_of_le_of_lt (Nat.zero_le _) hk)
  exact(World.cell?_of_block (a:=⟨B i,k,none⟩) (hb (B i) b1 b2)).trans (h.c i k hi hk),fun i k hi hl=>by
  obtain⟨b1,b2,_⟩:=h.b i hi hl
  exact(World.frozen?_of_block (a:=⟨B i,k,none⟩) (hb (B i) b1 b2)).trans (h.f i k hi hl)⟩
theorem dR (w:World) (b j:Nat) (u:Value) (c:Nat) (hne:c≠b):(w.setCell ⟨b,j,none⟩ u).heap[c]?=w.heap[c]?:=by
 by_cases hc:c<w.heap.size
 ·exact(aP w b j u).block c hc (fun e=>by injection e with e;exact hne e)
 ·rw[Array.getElem?_eq_none (by rw[World.size_setCell];omega),Array.getElem?_eq_none (by omega)]
theorem OR.far {lo hi:Nat} {w:World} {a:Option Addr} {n:Nat} {len:Nat→Nat} {G:Nat→Nat→Value} {g:Nat} {B:Nat→Nat} (h:OR lo hi w a n len G g B) (b j:Nat) (u:Value) (hb:b<lo∨hi≤b):OR lo hi (w.setCell ⟨b,j,none⟩ u) a n len G g B:=
 h.keep fun c h1 h2=>dR w b j u c (by omega)
theorem OR.set {lo hi:Nat} {w:World} {a:Option Addr} {n:Nat} {len:Nat→Nat} {G G':Nat→Nat→Value} {g:Nat} {B:Nat→Nat} (h:OR lo hi w a n len G g B) {n0 k0:Nat} (hn:n0<n) (hk:k0<len n0) (u:Value) (hG:∀i k,i<n→k<len i→G' i k=if i=n0∧k=k0 then u else G i k):OR lo hi (w.setCell ⟨B n0,k0,none⟩ u) a n len G' g B:=by
 have hl:0<len n0:=by omega
 obtain⟨b1,b2,b3⟩:=h.b n0 hn hl
 refine⟨h.ad,fun i hi=>?_,h.b,h.d,fun i k hi hk'=>?_,fun i k hi hl'=>?_⟩
 ·obtain⟨a',c,e1,e2,e3,e4⟩:=h.o i hi
  exact⟨a',c,by rw[World.cell?_setCell_far _ _ _ _ (by simpa using b3)];exact e1,e2,e3,e4⟩
 ·rw[hG i k hi hk']
  by_cases e:i=n0
  ·subst e
   by_cases ek:k=k0
   ·subst ek
    rw[if_pos ⟨rfl,rfl⟩]
    exact aK (h.c i k hi hk')
   ·rw[if_neg (fun q=>ek q.2)]
    exact aE ek (h.c i k hi hk')
  ·rw[if_neg (fun q=>e q.1),World.cell?_setCell_far _ _ _ _ (by simpa using h.d n0 i hn hi (fun q=>e q.symm) hl (by omega))]
   exact h.c i k hi hk'
 ·rw[World.frozen?_setCell];exact h.f i k hi hl'
theorem OR.congr {lo hi:Nat} {w:World} {a:Option Addr} {n:Nat} {len:Nat→Nat} {G G':Nat→Nat→Value} {g:Nat} {B:Nat→Nat} (h:OR lo hi w a n len G g B) (hG:∀i k,i<n→k<len i→G' i k=G i k):OR lo hi w a n len G' g B:=
 ⟨h.ad,h.o,h.b,h.d,fun i k hi hk=>by rw[hG i k hi hk];exact h.c i k hi hk,h.f⟩
structure OwnSt (C:Nat) (w:World) (sa ra wa va:Option Addr) (sc:Nat) (l:List TxA) (sh:Nat) (S:SA) (g0 c1 c2 c3 hi gr gw gv:Nat) (Br Bw Bv:Nat→Nat):Prop where
 st:NewRow C w sa sc g0 8 (fun k=>.int .i64 (S.st.getD k 0))
 h1:C≤c1∧g0<c1
 h2:c1≤c2
 h3:c2≤c3
 h4:c3≤hi
 h5:hi≤w.heap.size
 rd:OR c1 c2 w ra l.length (fun _=>sh) (fun i k=>.bool (cM S.rd i k)) gr Br
 wr:OR c2 c3 w wa l.length (fun _=>sh) (fun i k=>.bool (cM S.wr i k)) gw Bw
 vs:OR c3 hi w va l.length (fun i=>(gX l i).rs.length) (fun i k=>.int .i64 ((S.vs.getD i []).getD k 0)) gv Bv
 f:Form sh l S
theorem NewRow.keep {lo:Nat} {w w':World} {a:Option Addr} {c g n:Nat} {G:Nat→Value} (h:NewRow lo w a c g n G) (hb:w'.heap[g]?=w.heap[g]?) (hs:w.heap.size≤w'.heap.size):NewRow lo w' a c g n G:=
 ⟨fun hn=>by
  obtain⟨h1,h2,h3,h4,h5⟩:=h.e hn
  exact⟨h1,h2,Nat.lt_of_lt_of_le h3 hs,fun k hk=>(World.cell?_of_block (a:=⟨g,k,none⟩) hb).trans (h4 k hk),fun k=>(World.frozen?_of_block (a:=⟨g,k,none⟩) hb).trans (h5 k)⟩,h.z,h.lo⟩
theorem OwnSt.keep {C:Nat} {w w':World} {sa ra wa va:Option Addr} {sc:Nat} {l:List TxA} {sh:Nat} {S:SA} {g0 c1 c2 c3 hi gr gw gv:Nat} {Br Bw Bv:Nat→Nat} (h:OwnSt C w sa ra wa va sc l sh S g0 c1 c2 c3 hi gr gw gv Br Bw Bv) (hb:∀b,C≤b→b<w.heap.size→w'.heap[b]?=w.heap[b]?) (hs:w.heap.size≤w'.heap.size):OwnSt C w' sa ra wa va sc l sh S g0 c1 c2 c3 hi gr gw gv Br Bw Bv:=by
 have e:=h.st.e (by decide)
 have k1:=h.h1
 have k2:=h.h2
 have k3:=h.h3
 have k4:=h.h4
 have k5:=h.h5
 exact⟨h.st.keep (hb g0 e.2.1 e.2.2.1) hs,k1,k2,k3,k4,by omega,h.rd.keep (fun b q1 q2=>hb b (by omega) (by omega)),h.wr.keep (fun b q1 q2=>hb b (by omega) (by omega)),h.vs.keep (fun b q1 q2=>hb b (by omega) (by omega)),h.f⟩
theorem OwnSt.below {C:Nat} {w w':World} {sa ra wa va:Option Addr} {sc:Nat} {l:List TxA} {sh:Nat} {S:SA} {g0 c1 c2 c3 hi gr gw gv:Nat} {Br Bw Bv:Nat→Nat} (h:OwnSt C w sa ra wa va sc l sh S g0 c1 c2 c3 hi gr gw gv Br Bw Bv) (hb:Below w.heap.size w w'):OwnSt C w' sa ra wa va sc l sh S g0 c1 c2 c3 hi gr gw gv Br Bw Bv:=h.keep (fun b _ h2=>hb.block b h2) hb.size
theorem OwnSt.set {C:Nat} {w:World} {sa ra wa va:Option Addr} {sc:Nat} {l:List TxA} {sh:Nat} {S:SA} {g0 c1 c2 c3 hi gr gw gv:Nat} {Br Bw Bv:Nat→Nat} (h:OwnSt C w sa ra wa va sc l sh S g0 c1 c2 c3 hi gr gw gv Br Bw Bv) (b j:Nat) (u:Value) (hb:b<C):OwnSt C (w.setCell ⟨b,j,none⟩ u) sa ra wa va sc l sh S g0 c1 c2 c3 hi gr gw gv Br Bw Bv:=h.keep (fun c h1 _=>dR w b j u c (by omega)) (by rw[World.size_setCell];exact Nat.le_refl _)
theorem OR.isBR {lo hi:Nat} {w:World} {a:Option Addr} {n sh:Nat} {F:Nat→Nat→Bool} {g:Nat} {B:Nat→Nat} (h:OR lo hi w a n (fun _=>sh) (fun i k=>.bool (F i k)) g B) (h0:0<sh) (hh:hi≤w.heap.size):IsBR 0 w a n sh F:=fun i hi=>by
 obtain⟨e1,e2,e3⟩:=h.ad (by omega)
 obtain⟨a',c,o1,o2,_,_⟩:=h.o i hi
 obtain⟨b1,b2,_⟩:=h.b i hi h0
 rw[o2 h0]at o1
 exact⟨g,0,B i,0,c,e1,⟨Nat.zero_le _,by omega⟩,⟨Nat.zero_le _,by omega⟩,by rw[Nat.zero_add];exact o1,fun k hk=>by rw[Nat.zero_add];exact h.c i k hi hk⟩
theorem OR.isIR {lo hi:Nat} {w:World} {a:Option Addr} {l:List TxA} {V:List (List Int)} {g:Nat} {B:Nat→Nat} (h:OR lo hi w a l.length (fun i=>(gX l i).rs.length) (fun i k=>.int .i64 ((V.getD i []).getD k 0)) g B) (hv:∀i,i<l.length→(V.getD i []).length=(gX l i).rs.length) (hh:hi≤w.heap.size):IsIR 0 w a l V:=fun i hi=>by
 obtain⟨e1,e2,e3⟩:=h.ad (by omega)
 obtain⟨a',c,o1,o2,o3,_⟩:=h.o i hi
 refine⟨g,0,a',c,e1,⟨Nat.zero_le _,by omega⟩,by rw[Nat.zero_add];exact o1,hv i hi,fun k hk=>?_,fun _ _=>Nat.zero_le _,o3⟩
 rw[hv i hi]at hk
 obtain⟨b1,b2,_⟩:=h.b i hi (by omega)
 exact⟨B i,0,o2 (by omega),by omega,by rw[Nat.zero_add];exact h.c i k hi hk⟩
theorem OwnSt.ints {C:Nat} {w:World} {sa ra wa va:Option Addr} {sc:Nat} {l:List TxA} {sh:Nat} {S:SA} {g0 c1 c2 c3 hi gr gw gv:Nat} {Br Bw Bv:Nat→Nat} (h:OwnSt C w sa ra wa va sc l sh S g0 c1 c2 c3 hi gr gw gv Br Bw Bv):IsInts w sa S.st:=fun k hk=>by
 rw[h.f.st]at hk
 obtain⟨e1,e2,e3,e4,_⟩:=h.st.e (by decide)
 exact⟨g0,0,e1,e3,by rw[Nat.zero_add];exact e4 k hk⟩
theorem OwnSt.sta {C:Nat} {w:World} {sa ra wa va:Option Addr} {sc:Nat} {l:List TxA} {sh:Nat} {S:SA} {g0 c1 c2 c3 hi gr gw gv:Nat} {Br Bw Bv:Nat→Nat} (h:OwnSt C w sa ra wa va sc l sh S g0 c1 c2 c3 hi gr gw gv Br Bw Bv) (h0:0<sh):Sta w sa ra wa va S:=by
 have k2:=h.h2
 have k3:=h.h3
 have k4:=h.h4
 have k5:=h.h5
 refine⟨h.ints,fun i hi=>?_,fun i hi=>?_,fun i hi=>?_⟩
 ·rw[h.f.rd]at hi
  obtain⟨b,off,b',off',c',e,q1,q2,q3,q4⟩:=h.rd.isBR h0 (by omega) i hi
  refine⟨b,off,some ⟨b',off',none⟩,c',e,q1.2,by rw[h.f.rn i hi];exact q3,fun k hk=>?_,fun e=>by cases e⟩
  rw[h.f.rn i hi]at hk
  exact⟨b',off',rfl,q2.2,q4 k hk⟩
 ·rw[h.f.wr]at hi
  obtain⟨b,off,b',off',c',e,q1,q2,q3,q4⟩:=h.wr.isBR h0 (by omega) i hi
  refine⟨b,off,some ⟨b',off',none⟩,c',e,q1.2,by rw[h.f.wn i hi];exact q3,fun k hk=>?_,fun e=>by cases e⟩
  rw[h.f.wn i hi]at hk
  exact⟨b',off',rfl,q2.2,q4 k hk⟩
 ·rw[h.f.vs]at hi
  obtain⟨b,off,a',c',e,q1,q2,q3,q4,_,q5⟩:=h.vs.isIR h.f.vn (by omega) i hi
  exact⟨b,off,a',c',e,q1.2,by rw[h.f.vn i hi];exact q2,q4,q5⟩
theorem OwnSt.low {C C':Nat} {w:World} {sa ra wa va:Option Addr} {sc:Nat} {l:List TxA} {sh:Nat} {S:SA} {g0 c1 c2 c3 hi gr gw gv:Nat} {Br Bw Bv:Nat→Nat} (h:OwnSt C w sa ra wa va sc l sh S g0 c1 c2 c3 hi gr gw gv Br Bw Bv) (hc:C'≤C):OwnSt C' w sa ra wa va sc l sh S g0 c1 c2 c3 hi gr gw gv Br Bw Bv:=
 ⟨⟨fun hn=>⟨(h.st.e hn).1,Nat.le_trans hc (h.st.e hn).2.1,(h.st.e hn).2.2⟩,h.st.z,fun ad e=>Nat.le_trans hc (h.st.lo ad e)⟩,⟨Nat.le_trans hc h.h1.1,h.h1.2⟩,h.h2,h.h3,h.h4,h.h5,h.rd,h.wr,h.vs,h.f⟩
variable (sa ra wa va:Option Addr) (sc rc tc vc:Nat) (l:List TxA) (sh:Nat) (S:SA)
theorem copyOf_own (w:World) (h0:0<sh) (h4:sh≤4) (h8:l.length≤8) (hr4:∀i,i<l.length→(gX l i).rs.length≤4) (hf:Form sh l S) (hs:Sta w sa ra wa va S) :
  Calls Tryz.prog 196 #[.agg #[.slice sa 8 sc,.slice ra l.length rc,.slice wa l.length tc,.slice va l.length vc]] w fun e w'=>∃sa' ra' wa' va' sc' rc' tc' vc' g0 c1 c2 c3 gr gw gv Br Bw Bv,e=.returned (.agg #[.slice sa' 8 sc',.slice ra' l.length rc',.slice wa' l.length tc',.slice va' l.length vc'])∧OwnSt w.heap.size w' sa' ra' wa' va' sc' l sh S g0 c1 c2 c3 w'.heap.size gr gw gv Br Bw Bv∧Below w.heap.size w w':=by
 obtain⟨W,hWe⟩:∃W:World,W=((w.alloc (.cells #[.slice sa 8 sc,.slice ra l.length rc,.slice wa l.length tc,.slice va l.length vc] 45)).alloc (.cells #[.slice none 0 0,.slice none 0 0,.slice none 0 0,.slice none 0 0] 45)):=⟨_,rfl⟩
 have hW:Hid (Below w.heap.size w W):=by subst hWe;exact aA (aA (Below.refl _ _) _) _
 have s0:W.cell? ⟨w.heap.size,0,none⟩=some (.slice sa 8 sc):=by subst hWe;exact aB (aA (Below.refl _ _) _) (aG w _ 45 _ 0 _ rfl rfl)
 have s1:W.cell? ⟨w.heap.size,1,none⟩=some (.slice ra l.length rc):=by subst hWe;exact aB (aA (Below.refl _ _) _) (aG w _ 45 _ 1 _ rfl rfl)
 have s2:W.cell? ⟨w.heap.size,2,none⟩=some (.slice wa l.length tc):=by subst hWe;exact aB (aA (Below.refl _ _) _) (aG w _ 45 _ 2 _ rfl rfl)
 have s3:W.cell? ⟨w.heap.size,3,none⟩=some (.slice va l.length vc):=by subst hWe;exact aB (aA (Below.refl _ _) _) (aG w _ 45 _ 3 _ rfl rfl)
 have r0:∀j,j<4→W.cell? ⟨w.heap.size+1,j,none⟩=some (.slice none 0 0):=by
  subst hWe
  exact fun j hj=>by
   match j,hj with
   | 0,_=>exact aG _ _ 45 _ 0 _ (by simp) rfl
   | 1,_=>exact aG _ _ 45 _ 1 _ (by simp) rfl
   | 2,_=>exact aG _ _ 45 _ 2 _ (by simp) rfl
   | 3,_=>exact aG _ _ 45 _ 3 _ (by simp) rfl
 have rf:∀j,W.frozen? ⟨w.heap.size+1,j,none⟩=false:=by subst hWe;exact fun j=>by simp
 have sz:Hid (W.heap.size=w.heap.size+2):=by subst hWe;show _=_;simp
 have HS:Hid (Sta W sa ra wa va S):=hs.below hW.out
 have R0:Hid (∀j,j<4→W.cell? ⟨w.heap.size+1,j,none⟩=some (.slice none 0 0)):=r0
 have RF:Hid (∀j,W.frozen? ⟨w.heap.size+1,j,none⟩=false):=rf
 have HF:Hid (Form sh l S):=hf
 have HR4:Hid (∀i,i<l.length→(gX l i).rs.length≤4):=hr4
 clear hs r0 rf hf hr4
 have HWe:Hid (W=_):=hWe
 clear hWe
 go_enter Tryz.func196,Tryz.ntmps196
 go_upto_region 1 with fail
 rw[←HWe.out]
 clear HWe
 have C1:Hid (∀w',Below W.heap.size W w'→Calls Tryz.prog 79 #[.slice sa 8 sc] w' fun e w''=>∃a' c' g,e=.returned (.slice a' 8 c')∧NewRow w'.heap.size w'' a' c' g 8 (fun k=>.int .i64 (S.st.getD k 0))∧Below w'.heap.size w' w''):=fun w' hb=>kE 8 (fun k=>.int .i64 (S.st.getD k 0)) (fun k _=>⟨_,rfl⟩) sa sc w' (by decide) (fun k hk=>by
  obtain⟨b,off,e,q1,q2⟩:=(HS.out.below hb).st k (by rw[HF.out.st];exact hk)
  exact⟨b,off,e,q1,q2⟩)
 have C2:Hid (∀w',Below W.heap.size W w'→Calls Tryz.prog 240 #[.slice ra l.length rc] w' fun e w''=>∃a' c' g B,e=.returned (.slice a' l.length c')∧OR w'.heap.size w''.heap.size w'' a' l.length (fun _=>sh) (fun i k=>.bool (cM S.rd i k)) g B∧Below w'.heap.size w' w''):=fun w' hb=>vL l.length (fun _=>sh) (fun i k=>.bool (cM S.rd i k)) (fun i k _ _=>⟨_,rfl⟩) ra rc w' h8 (fun i _=>by omega) (fun i hi=>by
  obtain⟨b,off,b',off',c',e,q1,q2,q3,q4⟩:=(HS.out.below hb).rd.rows HF.out.rd HF.out.rn h0 i hi
  exact⟨b,off,some ⟨b',off',none⟩,c',e,q1.2,q3,fun k hk=>⟨b',off',rfl,q2.2,q4 k hk⟩⟩)
 have C3:Hid (∀w',Below W.heap.size W w'→Calls Tryz.prog 240 #[.slice wa l.length tc] w' fun e w''=>∃a' c' g B,e=.returned (.slice a' l.length c')∧OR w'.heap.size w''.heap.size w'' a' l.length (fun _=>sh) (fun i k=>.bool (cM S.wr i k)) g B∧Below w'.heap.size w' w''):=fun w' hb=>vL l.length (fun _=>sh) (fun i k=>.bool (cM S.wr i k)) (fun i k _ _=>⟨_,rfl⟩) wa tc w' h8 (fun i _=>by omega) (fun i hi=>by
  obtain⟨b,off,b',off',c',e,q1,q2,q3,q4⟩:=(HS.out.below hb).wr.rows HF.out.wr HF.out.wn h0 i hi
  exact⟨b,off,some ⟨b',off',none⟩,c',e,q1.2,q3,fun k hk=>⟨b',off',rfl,q2.2,q4 k hk⟩⟩)
 have C4:Hid (∀w',Below W.heap.size W w'→Calls Tryz.prog 241 #[.slice va l.length vc] w' fun e w''=>∃a' c' g B,e=.returned (.slice a' l.length c')∧OR w'.heap.size w''.heap.size w'' a' l.length (fun i=>(gX l i).rs.length) (fun i k=>.int .i64 ((S.vs.getD i []).getD k 0)) g B∧Below w'.heap.size w' w''):=fun w' hb=>copyI_new l.length (fun i=>(gX l i).rs.length) (fun i k=>.int .i64 ((S.vs.getD i []).getD k 0)) (fun i k _ _=>⟨_,rfl⟩) va vc w' h8 (fun i hi=>by have:=HR4.out i hi;omega) (fun i hi=>by
  obtain⟨b,off,a',c',e,q1,q2,q3,q4,_⟩:=(HS.out.below hb).vs.rows HF.out.vs HF.out.vn i hi
  exact⟨b,off,a',c',e,q1.2,q2,fun k hk=>by
   obtain⟨b',off',e',q5,q6⟩:=q4 k (by rw[q3];exact hk)
   exact⟨b',off',e',q5,q6⟩⟩)
 have KS:Hid (∀w',Below (w.heap.size+1) W w'→w'.cell? ⟨w.heap.size,0,none⟩=some (.slice sa 8 sc)∧w'.cell? ⟨w.heap.size,1,none⟩=some (.slice ra l.length rc)∧w'.cell? ⟨w.heap.size,2,none⟩=some (.slice wa l.length tc)∧w'.cell? ⟨w.heap.size,3,none⟩=some (.slice va l.length vc)∧Hid (Below (w.heap.size+1) W w')):=fun w' hb=>⟨(hb.cell (p:=⟨w.heap.size,0,none⟩) (by simp)).trans s0,(hb.cell (p:=⟨w.heap.size,1,none⟩) (by simp)).trans s1,(hb.cell (p:=⟨w.heap.size,2,none⟩) (by simp)).trans s2,(hb.cell (p:=⟨w.heap.size,3,none⟩) (by simp)).trans s3,hb⟩
 have UP:Hid (∀w',Below W.heap.size W w'→Below (w.heap.size+1) W w'):=fun w' hb=>hb.mono (by have:=sz.out;omega)
 go_region_held3 (fun w'=>w'.cell? ⟨w.heap.size,0,none⟩=some (.slice sa 8 sc)∧w'.cell? ⟨w.heap.size,1,none⟩=some (.slice ra l.length rc)∧w'.cell? ⟨w.heap.size,2,none⟩=some (.slice wa l.length tc)∧w'.cell? ⟨w.heap.size,3,none⟩=some (.slice va l.length vc)∧Hid (Below (w.heap.size+1) W w'))
  ((refine KS.out _ ?_;first | exact FINB.out | (refine UP.out _ ?_;first | exact aD (Below.refl _ _) | exact D1.out | exact D2.out | exact D3.out | exact D4.out)))
  (first
   | (go_at_call 79;refine(C1.out _ (aD (Below.refl _ _))).mono ?_;rintro e wa1 ⟨a1,k1,g1,rfl,h1,hb1⟩;have D1:Hid (Below W.heap.size W wa1):=aC (aD (Below.refl _ _)) hb1)
   | (go_at_call_of 240 (Value.slice ra l.length rc);refine(C2.out _ D1.out).mono ?_;rintro e wa2 ⟨a2,k2,g2,B2,rfl,h2,hb2⟩;have D2:Hid (Below W.heap.size W wa2):=aC D1.out hb2)
   | (go_at_call_of 240 (Value.slice wa l.length tc);refine(C3.out _ D2.out).mono ?_;rintro e wa3 ⟨a3,k3,g3,B3,rfl,h3,hb3⟩;have D3:Hid (Below W.heap.size W wa3):=aC D2.out hb3)
   | (go_at_call 241;refine(C4.out _ D3.out).mono ?_;rintro e wa4 ⟨a4,k4,g4,B4,rfl,h4',hb4⟩;have D4:Hid (Below W.heap.size W wa4):=aC D3.out hb4;have t0:wa4.cell? ⟨w.heap.size+1,0,none⟩=some (.slice none 0 0):=aB D4.out (R0.out 0 (by decide));have t1:wa4.cell? ⟨w.heap.size+1,1,none⟩=some (.slice none 0 0):=aB D4.out (R0.out 1 (by decide));have t2:wa4.cell? ⟨w.heap.size+1,2,none⟩=some (.slice none 0 0):=aB D4.out (R0.out 2 (by decide));have t3:wa4.cell? ⟨w.heap.size+1,3,none⟩=some (.slice none 0 0):=aB D4.out (R0.out 3 (by decide));have tf:∀j,wa4.frozen? ⟨w.heap.size+1,j,none⟩=false:=(fun j=>(D4.out.frozen (p:=⟨w.heap.size+1,j,none⟩) (by have:=sz.out;simp;omega)).trans (RF.out j));have FINB:Hid (Below (w.heap.size+1) W ((((wa4.setCell ⟨w.heap.size+1,0,none⟩ (.slice a1 8 k1)).setCell ⟨w.heap.size+1,1,none⟩ (.slice a2 l.length k2)).setCell ⟨w.heap.size+1,2,none⟩ (.slice a3 l.length k3)).setCell ⟨w.heap.size+1,3,none⟩ (.slice a4 l.length k4))):=((((UP.out _ D4.out).setCell (by simp) _).setCell (by simp) _).setCell (by simp) _).setCell (by simp) _))
 all_goals (
  have OWN:Hid (OwnSt (w.heap.size+2) wa4 a1 a2 a3 a4 k1 l sh S g1 wa1.heap.size wa2.heap.size wa3.heap.size wa4.heap.size g2 g3 g4 B2 B3 B4):=⟨((h1.below hb2).below hb3).below hb4 |> fun q=>⟨fun hn=>⟨(q.e hn).1,by have k:W.heap.size≤g1:=(q.e hn).2.1;have:=sz.out;omega,(q.e hn).2.2⟩,q.z,fun ad e=>by have k:W.heap.size≤ad.block:=q.lo ad e;have:=sz.out;omega⟩,⟨by have:=D1.out.size;have:=sz.out;omega,(h1.e (by decide)).2.2.1⟩,hb2.size,hb3.size,hb4.size,Nat.le_refl _,h2.keep (fun b _ q=>((aC hb3 hb4).block b q)),h3.keep (fun b _ q=>hb4.block b q),h4',HF.out⟩
  have u0:((((wa4.setCell ⟨w.heap.size+1,0,none⟩ (.slice a1 8 k1)).setCell ⟨w.heap.size+1,1,none⟩ (.slice a2 l.length k2)).setCell ⟨w.heap.size+1,2,none⟩ (.slice a3 l.length k3)).setCell ⟨w.heap.size+1,3,none⟩ (.slice a4 l.length k4)).cell? ⟨w.heap.size+1,0,none⟩=some (.slice a1 8 k1):=aE (by decide) (aE (by decide) (aE (by decide) (aK t0)))
  have u1:((((wa4.setCell ⟨w.heap.size+1,0,none⟩ (.slice a1 8 k1)).setCell ⟨w.heap.size+1,1,none⟩ (.slice a2 l.length k2)).setCell ⟨w.heap.size+1,2,none⟩ (.slice a3 l.length k3)).setCell ⟨w.heap.size+1,3,none⟩ (.slice a4 l.length k4)).cell? ⟨w.heap.size+1,1,none⟩=some (.slice a2 l.length k2):=aE (by decide) (aE (by decide) (aK (aE (by decide) t1)))
  have u2:((((wa4.setCell ⟨w.heap.size+1,0,none⟩ (.slice a1 8 k1)).setCell ⟨w.heap.size+1,1,none⟩ (.slice a2 l.length k2)).setCell ⟨w.heap.size+1,2,none⟩ (.slice a3 l.length k3)).setCell ⟨w.heap.size+1,3,none⟩ (.slice a4 l.length k4)).cell? ⟨w.heap.size+1,2,none⟩=some (.slice a3 l.length k3):=aE (by decide) (aK (aE (by decide) (aE (by decide) t2)))
  have u3:((((wa4.setCell ⟨w.heap.size+1,0,none⟩ (.slice a1 8 k1)).setCell ⟨w.heap.size+1,1,none⟩ (.slice a2 l.length k2)).setCell ⟨w.heap.size+1,2,none⟩ (.slice a3 l.length k3)).setCell ⟨w.heap.size+1,3,none⟩ (.slice a4 l.length k4)).cell? ⟨w.heap.size+1,3,none⟩=some (.slice a4 l.length k4):=aK (aE (by decide) (aE (by decide) (aE (by decide) t3)))
  have FO:Hid (OwnSt (w.heap.size+2) ((((wa4.setCell ⟨w.heap.size+1,0,none⟩ (.slice a1 8 k1)).setCell ⟨w.heap.size+1,1,none⟩ (.slice a2 l.length k2)).setCell ⟨w.heap.size+1,2,none⟩ (.slice a3 l.length k3)).setCell ⟨w.heap.size+1,3,none⟩ (.slice a4 l.length k4)) a1 a2 a3 a4 k1 l sh S g1 wa1.heap.size wa2.heap.size wa3.heap.size wa4.heap.size g2 g3 g4 B2 B3 B4):=(((OWN.out.set _ 0 _ (by omega)).set _ 1 _ (by omega)).set _ 2 _ (by omega)).set _ 3 _ (by omega)
  have FB:Hid (Below w.heap.size w ((((wa4.setCell ⟨w.heap.size+1,0,none⟩ (.slice a1 8 k1)).setCell ⟨w.heap.size+1,1,none⟩ (.slice a2 l.length k2)).setCell ⟨w.heap.size+1,2,none⟩ (.slice a3 l.length k3)).setCell ⟨w.heap.size+1,3,none⟩ (.slice a4 l.length k4))):=aI (aI (aI (aI (aC hW.out D4.out) (by simp) _) (by simp) _) (by simp) _) (by simp) _
  have SZ:Hid (((((wa4.setCell ⟨w.heap.size+1,0,none⟩ (.slice a1 8 k1)).setCell ⟨w.heap.size+1,1,none⟩ (.slice a2 l.length k2)).setCell ⟨w.heap.size+1,2,none⟩ (.slice a3 l.length k3)).setCell ⟨w.heap.size+1,3,none⟩ (.slice a4 l.length k4)).heap.size=wa4.heap.size):=by show _=_;simp
  clear h1 h2 h3 h4' hb1 hb2 hb3 hb4 D1 D2 D3 D4 OWN t0 t1 t2 t3 tf FINB KS UP C1 C2 C3 C4
  generalize ((((wa4.setCell ⟨w.heap.size+1,0,none⟩ (.slice a1 8 k1)).setCell ⟨w.heap.size+1,1,none⟩ (.slice a2 l.length k2)).setCell ⟨w.heap.size+1,2,none⟩ (.slice a3 l.length k3)).setCell ⟨w.heap.size+1,3,none⟩ (.slice a4 l.length k4))=WF at *
  go_wp2_with fail
  refine bodyPost_ret (v:=.agg #[.slice a1 8 k1,.slice a2 l.length k2,.slice a3 l.length k3,.slice a4 l.length k4]) (by simp[results,Tryz.results196,go_sem,u0,u1,u2,u3]) rfl ⟨a1,a2,a3,a4,k1,k2,k3,k4,g1,wa1.heap.size,wa2.heap.size,wa3.heap.size,g2,g3,g4,B2,B3,B4,rfl,?_,FB.out⟩
  rw[SZ.out]
  exact FO.out.low (by omega))
end
theorem sL (sh k:Nat) (s:List Int):∀(rs vs:List Int) (i j:Nat),vs.length=rs.length→j<rs.length→(eR sh k s (rs.take i) vs).getD j 0=if j<i∧(rs.getD j 0).toNat%sh=k then pU s (rs.getD j 0) else vs.getD j 0
 | [],_,_,j,_,hj=>absurd hj (Nat.not_lt_zero _)
 | r::rs,[],i,j,hl,_=>by simp at hl
 | r::rs,v::vs,0,j,_,_=>by simp[eR]
 | r::rs,v::vs,i+1,0,_,_=>by simp[eR]
 | r::rs,v::vs,i+1,j+1,hl,hj=>by
  have:=sL sh k s rs vs i j (by simpa using hl) (by simpa using hj)
  simp only[List.take_succ_cons,eR,List.getD_cons_succ,this,Nat.add_lt_add_iff_right]
theorem rZ (sh k:Nat):∀(ks s vs:List Int) (i:Nat),i<ks.length→i<vs.length→bZ sh k s (ks.take (i+1)) (vs.take (i+1))=if (ks.getD i 0).toNat%sh=k then (bZ sh k s (ks.take i) (vs.take i)).set (ks.getD i 0).toNat (vs.getD i 0) else bZ sh k s (ks.take i) (vs.take i)
 | a::ks,s,v::vs,0,_,_=>by simp[bZ]
 | a::ks,s,v::vs,i+1,h,h'=>by
  simp only[List.take_succ_cons,bZ,List.getD_cons_succ]
  exact rZ sh k ks _ vs i (by simpa using h) (by simpa using h')
 | [],_,_,_,h,_=>absurd h (Nat.not_lt_zero _)
 | _::_,_,[],_,_,h=>absurd h (Nat.not_lt_zero _)
theorem uL (sh k:Nat):∀(ks s vs:List Int),vs.length≤ks.length→bZ sh k s (ks.take vs.length) vs=bZ sh k s ks vs
 | [],s,vs,_=>by simp
 | a::ks,s,[],_=>by simp[bZ]
 | a::ks,s,v::vs,h=>by
  simp only[List.length_cons,List.take_succ_cons,bZ]
  exact uL sh k ks _ vs (by simpa using h)
theorem OwnSt.setRd {C:Nat} {w:World} {sa ra wa va:Option Addr} {sc:Nat} {l:List TxA} {sh:Nat} {S:SA} {g0 c1 c2 c3 hi gr gw gv:Nat} {Br Bw Bv:Nat→Nat} (h:OwnSt C w sa ra wa va sc l sh S g0 c1 c2 c3 hi gr gw gv Br Bw Bv) {n k:Nat} (hn:n<l.length) (hk:k<sh):OwnSt C (w.setCell ⟨Br n,k,none⟩ (.bool true)) sa ra wa va sc l sh {S with rd:=fJ S.rd n k} g0 c1 c2 c3 hi gr gw gv Br Bw Bv:=by
 obtain⟨b1,b2,_⟩:=h.rd.b n hn (Nat.lt_of_le_of_lt (Nat.zero_le _) hk)
 have k1:=h.h1
 have k2:=h.h2
 have k3:=h.h3
 have k4:=h.h4
 refine⟨h.st.keep (dR _ _ _ _ _ (by omega)) (by rw[World.size_setCell];exact Nat.le_refl _),k1,k2,k3,k4,by rw[World.size_setCell];exact h.h5,h.rd.set hn hk (.bool true) (fun i j hi hj=>?_),h.wr.far _ _ _ (by omega),h.vs.far _ _ _ (by omega),?_⟩
 ·rw[oK (by rw[h.f.rd];exact hn) (by rw[h.f.rn n hn];exact hk)]
  by_cases e:i=n∧j=k
  ·rw[if_pos ⟨e.1.symm,e.2.symm⟩,if_pos e]
  ·rw[if_neg (fun q=>e ⟨q.1.symm,q.2.symm⟩),if_neg e]
 ·exact⟨h.f.st,by rw[nB];exact h.f.rd,h.f.wr,h.f.vs,fun i hi=>by rw[nA];exact h.f.rn i hi,h.f.wn,h.f.vn⟩
theorem OwnSt.setWr {C:Nat} {w:World} {sa ra wa va:Option Addr} {sc:Nat} {l:List TxA} {sh:Nat} {S:SA} {g0 c1 c2 c3 hi gr gw gv:Nat} {Br Bw Bv:Nat→Nat} (h:OwnSt C w sa ra wa va sc l sh S g0 c1 c2 c3 hi gr gw gv Br Bw Bv) {n k:Nat} (hn:n<l.length) (hk:k<sh):OwnSt C (w.setCell ⟨Bw n,k,none⟩ (.bool true)) sa ra wa va sc l sh {S with wr:=fJ S.wr n k} g0 c1 c2 c3 hi gr gw gv Br Bw Bv:=by
 obtain⟨b1,b2,_⟩:=h.wr.b n hn (Nat.lt_of_le_of_lt (Nat.zero_le _) hk)
 have k1:=h.h1
 have k2:=h.h2
 have k3:=h.h3
 have k4:=h.h4
 refine⟨h.st.keep (dR _ _ _ _ _ (by omega)) (by rw[World.size_setCell];exact Nat.le_refl _),k1,k2,k3,k4,by rw[World.size_setCell];exact h.h5,h.rd.far _ _ _ (by omega),h.wr.set hn hk (.bool true) (fun i j hi hj=>?_),h.vs.far _ _ _ (by omega),?_⟩
 ·rw[oK (by rw[h.f.wr];exact hn) (by rw[h.f.wn n hn];exact hk)]
  by_cases e:i=n∧j=k
  ·rw[if_pos ⟨e.1.symm,e.2.symm⟩,if_pos e]
  ·rw[if_neg (fun q=>e ⟨q.1.symm,q.2.symm⟩),if_neg e]
 ·exact⟨h.f.st,h.f.rd,by rw[nB];exact h.f.wr,h.f.vs,h.f.rn,fun i hi=>by rw[nA];exact h.f.wn i hi,h.f.vn⟩
theorem OwnSt.setV {C:Nat} {w:World} {sa ra wa va:Option Addr} {sc:Nat} {l:List TxA} {sh:Nat} {S:SA} {g0 c1 c2 c3 hi gr gw gv:Nat} {Br Bw Bv:Nat→Nat} (h:OwnSt C w sa ra wa va sc l sh S g0 c1 c2 c3 hi gr gw gv Br Bw Bv) {n i:Nat} (hn:n<l.length) (hi':i<(gX l n).rs.length) (u:Int) (V:List (List Int)) (hV:∀a j,a<l.length→j<(gX l a).rs.length→(V.getD a []).getD j 0=if a=n∧j=i then u else (S.vs.getD a []).getD j 0) (hl:V.length=l.length) (hr:∀a,a<l.length→(V.getD a []).length=(gX l a).rs.length):OwnSt C (w.setCell ⟨Bv n,i,none⟩ (.int .i64 u)) sa ra wa va sc l sh {S with vs:=V} g0 c1 c2 c3 hi gr gw gv Br Bw Bv:=by
 obtain⟨b1,b2,_⟩:=h.vs.b n hn (Nat.lt_of_le_of_lt (Nat.zero_le _) hi')
 have k1:=h.h1
 have k2:=h.h2
 have k3:=h.h3
 have k4:=h.h4
 refine⟨h.st.keep (dR _ _ _ _ _ (by omega)) (by rw[World.size_setCell];exact Nat.le_refl _),k1,k2,k3,k4,by rw[World.size_setCell];exact h.h5,h.rd.far _ _ _ (by omega),h.wr.far _ _ _ (by omega),h.vs.set hn hi' (.int .i64 u) (fun a j ha hj=>?_),?_⟩
 ·show Value.int .i64 ((V.getD a []).getD j 0)=_
  rw[hV a j ha hj]
  by_cases e:a=n∧j=i
  ·rw[if_pos e,if_pos e]
  ·rw[if_neg e,if_neg e]
 ·exact⟨h.f.st,h.f.rd,h.f.wr,hl,h.f.rn,h.f.wn,hr⟩
theorem OwnSt.asV {C:Nat} {w:World} {sa ra wa va:Option Addr} {sc:Nat} {l:List TxA} {sh:Nat} {S:SA} {g0 c1 c2 c3 hi gr gw gv:Nat} {Br Bw Bv:Nat→Nat} (h:OwnSt C w sa ra wa va sc l sh S g0 c1 c2 c3 hi gr gw gv Br Bw Bv) (V:List (List Int)) (hV:∀a j,a<l.length→j<(gX l a).rs.length→(V.getD a []).getD j 0=(S.vs.getD a []).getD j 0) (hl:V.length=l.length) (hr:∀a,a<l.length→(V.getD a []).length=(gX l a).rs.length):OwnSt C w sa ra wa va sc l sh {S with vs:=V} g0 c1 c2 c3 hi gr gw gv Br Bw Bv:=
 ⟨h.st,h.h1,h.h2,h.h3,h.h4,h.h5,h.rd,h.wr,h.vs.congr (fun a j ha hj=>by show Value.int .i64 ((V.getD a []).getD j 0)=_;rw[hV a j ha hj]),⟨h.f.st,h.f.rd,h.f.wr,hl,h.f.rn,h.f.wn,hr⟩⟩
theorem OwnSt.setS {C:Nat} {w:World} {sa ra wa va:Option Addr} {sc:Nat} {l:List TxA} {sh:Nat} {S:SA} {g0 c1 c2 c3 hi gr gw gv:Nat} {Br Bw Bv:Nat→Nat} (h:OwnSt C w sa ra wa va sc l sh S g0 c1 c2 c3 hi gr gw gv Br Bw Bv) {c:Nat} (hc:c<8) (u:Int):OwnSt C (w.setCell ⟨g0,c,none⟩ (.int .i64 u)) sa ra wa va sc l sh {S with st:=S.st.set c u} g0 c1 c2 c3 hi gr gw gv Br Bw Bv:=by
 obtain⟨e1,e2,e3,e4,e5⟩:=h.st.e (by decide)
 have k1:=h.h1
 have k2:=h.h2
 have k3:=h.h3
 have k4:=h.h4
 refine⟨⟨fun _=>⟨e1,e2,by rw[World.size_setCell];exact e3,fun k hk=>?_,fun k=>by rw[World.frozen?_setCell];exact e5 k⟩,h.st.z,h.st.lo⟩,k1,k2,k3,k4,by rw[World.size_setCell];exact h.h5,h.rd.far _ _ _ (by omega),h.wr.far _ _ _ (by omega),h.vs.far _ _ _ (by omega),⟨by rw[List.length_set];exact h.f.st,h.f.rd,h.f.wr,h.f.vs,h.f.rn,h.f.wn,h.f.vn⟩⟩
 show _=some (Value.int .i64 ((S.st.set c u).getD k 0))
 by_cases e:k=c
 ·subst e
  rw[dP _ _ _ _ _ (by rw[h.f.st];exact hk),if_pos rfl]
  exact aK (e4 k hk)
 ·rw[dP _ _ _ _ _ (by rw[h.f.st];exact hc),if_neg (fun q=>e q.symm)]
  exact aE e (e4 k hk)
structure DoAt (w0 w:World) (C h p:Nat) (la:Option Addr) (lc rc tc vc:Nat) (sa ra wa va:Option Addr) (sc:Nat) (l:List TxA) (sh:Nat) (S:SA) (g0 c1 c2 c3 hi gr gw gv:Nat) (Br Bw Bv:Nat→Nat):Prop where
 h0:w.cell? ⟨h,0,none⟩=some (.pointer (some ⟨p,0,none⟩))
 h1:w.cell? ⟨h,1,none⟩=some (.slice sa 8 sc)
 h2:w.cell? ⟨h,2,none⟩=some (.slice ra l.length rc)
 h3:w.cell? ⟨h,3,none⟩=some (.slice wa l.length tc)
 h4:w.cell? ⟨h,4,none⟩=some (.slice va l.length vc)
 p0:w.cell? ⟨p,0,none⟩=some (.int .i64 sh)
 p1:w.cell? ⟨p,1,none⟩=some (.slice la l.length lc)
 hc:h<C
 pc:p<C
 tx:IsTxs w0 la l
 bl:Below w0.heap.size w0 w
 cw:w0.heap.size≤C
 own:OwnSt C w sa ra wa va sc l sh S g0 c1 c2 c3 hi gr gw gv Br Bw Bv
 s0:0<sh
 s4:sh≤4
 l8:l.length≤8
 ck:dD l=0
theorem DoAt.to {w0 w w':World} {C h p:Nat} {la:Option Addr} {lc rc tc vc:Nat} {sa ra wa va:Option Addr} {sc:Nat} {l:List TxA} {sh:Nat} {S:SA} {g0 c1 c2 c3 hi gr gw gv:Nat} {Br Bw Bv:Nat→Nat} {S':SA} (D:DoAt w0 w C h p la lc rc tc vc sa ra wa va sc l sh S g0 c1 c2 c3 hi gr gw gv Br Bw Bv) (hb:Below C w w') (ho:OwnSt C w' sa ra wa va sc l sh S' g0 c1 c2 c3 hi gr gw gv Br Bw Bv):DoAt w0 w' C h p la lc rc tc vc sa ra wa va sc l sh S' g0 c1 c2 c3 hi gr gw gv Br Bw Bv:=by
 have q:=D.hc
 have q':=D.pc
 exact⟨(hb.cell (p:=⟨h,0,none⟩) q).trans D.h0,(hb.cell (p:=⟨h,1,none⟩) q).trans D.h1,(hb.cell (p:=⟨h,2,none⟩) q).trans D.h2,(hb.cell (p:=⟨h,3,none⟩) q).trans D.h3,(hb.cell (p:=⟨h,4,none⟩) q).trans D.h4,(hb.cell (p:=⟨p,0,none⟩) q').trans D.p0,(hb.cell (p:=⟨p,1,none⟩) q').trans D.p1,q,q',D.tx,D.bl.trans (hb.mono D.cw),D.cw,ho,D.s0,D.s4,D.l8,D.ck⟩
theorem DoAt.below {w0 w w':World} {C h p:Nat} {la:Option Addr} {lc rc tc vc:Nat} {sa ra wa va:Option Addr} {sc:Nat} {l:List TxA} {sh:Nat} {S:SA} {g0 c1 c2 c3 hi gr gw gv:Nat} {Br Bw Bv:Nat→Nat} (D:DoAt w0 w C h p la lc rc tc vc sa ra wa va sc l sh S g0 c1 c2 c3 hi gr gw gv Br Bw Bv) (hb:Below w.heap.size w w'):DoAt w0 w' C h p la lc rc tc vc sa ra wa va sc l sh S g0 c1 c2 c3 hi gr gw gv Br Bw Bv:=by
 have e:=D.own.h1
 have e5:=D.own.h5
 have e2:=D.own.h2
 have e3:=D.own.h3
 have e4:=D.own.h4
 exact D.to (hb.mono (by omega)) (D.own.below hb)
end Go.Proofs.YtcgpkonfneofdaaGreatDoor
