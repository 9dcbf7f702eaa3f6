/- Conditions: those that each theorem states. -/
import Derived.Test.YtcgpkonfneofdaaGreatDoorSOwnG
set_option maxRecDepth 100000
set_option maxHeartbeats 8000000
namespace Go.Proofs.YtcgpkonfneofdaaGreatDoor
open Go.RowKit
def qN (v:Value) (k:Nat) (len:Nat→Nat) (B:Nat→Nat) (b:Nat):Prop:=v.ownBlock=some b∨∃i,i<k∧0<len i∧B i=b
theorem CR.lt {T C:Nat} {w:World} {v:Value} {k:Nat} {len:Nat→Nat} {G:Nat→Nat→Value} {L:List (Option Addr×Nat×Nat)} {B:Nat→Nat} (h:CR T C w v k len G L B) {b:Nat} (hf:qN v k len B b):C≤b∧b<w.heap.size:=by
 rcases hf with e | ⟨i,hi,hl,rfl⟩
 ·exact h.o.lt b e
 ·exact⟨(h.b i hi hl).1,(h.b i hi hl).2.1⟩
theorem CR.on {T C:Nat} {w w':World} {v:Value} {k:Nat} {len:Nat→Nat} {G:Nat→Nat→Value} {L:List (Option Addr×Nat×Nat)} {B:Nat→Nat} (h:CR T C w v k len G L B) {row:Option Nat} (hg:w.grownBy w' row) (hr:∀b,row=some b→¬qN v k len B b):CR T C w' v k len G L B:=
 ⟨h.n,dN h.o hg (fun j e q=>hr j q (.inl e)),h.e,fun i hi hl=>⟨(h.b i hi hl).1,Nat.lt_of_lt_of_le (h.b i hi hl).2.1 hg.size,(h.b i hi hl).2.2⟩,h.d,fun i m hi hm=>hg.cell (h.c i m hi hm) (fun q=>hr (B i) q.symm (.inr ⟨i,hi,by omega,rfl⟩)),fun i m hi hl=>(World.frozen?_of_block (a:=⟨B i,m,none⟩) (hg.block (B i) (h.b i hi hl).2.1 (fun q=>hr (B i) q.symm (.inr ⟨i,hi,hl,rfl⟩)))).trans (h.f i m hi hl)⟩
theorem CR.pushed {T C:Nat} {V wc w3:World} {v v':Value} {k:Nat} {len:Nat→Nat} {G:Nat→Nat→Value} {L:List (Option Addr×Nat×Nat)} {B:Nat→Nat} {a:Option Addr} {c g:Nat} (h:CR T C V v k len G L B) (hb:Below V.heap.size V wc)
  (ho:w3.ownsRow C T 1 v' (L.length+1) ((L.map fun p=>Value.slice p.1 p.2.1 p.2.2)++[.slice a (len k) c])) (hg:wc.grownBy w3 v.ownBlock) (hv:v'.ownBlock=v.ownBlock∨v'.ownBlock=some wc.heap.size)
  (hn:NewRow V.heap.size wc a c g (len k) (G k)) (hC:C≤V.heap.size) (H j:Nat) (hH:H<C) (u:Value) :
  ∃B',CR T C (w3.setCell ⟨H,j,none⟩ u) v' (k+1) len G (L++[(a,len k,c)]) B'∧∀b,qN v' (k+1) len B' b→qN v k len B b∨V.heap.size≤b:=by
 have h':=h.below hb
 have P:=CR.push (B':=fun i=>if i=k then g else B i) h' h.n ho hg hv hn hC (fun j e=>(h.lt (.inl e)).2) (fun i hi hl=>(h.b i hi hl).2.1) (if_pos rfl) (fun i hi=>if_neg hi)
 refine⟨_,P.on (aP w3 H j u) (fun b e q=>by injection e with e;have:=(P.lt q).1;omega),fun b hf=>?_⟩
 rcases hf with e | ⟨i,hi,hl,e⟩
 ·rcases hv with x | x
  ·exact .inl (.inl (x.symm.trans e))
  ·rw[x]at e;injection e with e;have:=hb.size;exact .inr (by omega)
 ·by_cases q:i=k
  ·subst q
   have e:(if i=i then g else B i)=b:=e
   rw[if_pos rfl]at e
   exact .inr (by rw[←e];exact(hn.e hl).2.1)
  ·have e:(if i=k then g else B i)=b:=e
   rw[if_neg q]at e
   exact .inl (.inr ⟨i,by omega,hl,e⟩)
theorem CR.stays {T T' C:Nat} {V wc w3:World} {v:Value} {k:Nat} {len:Nat→Nat} {G:Nat→Nat→Value} {L:List (Option Addr×Nat×Nat)} {B:Nat→Nat} {v2:Value} {k2:Nat} {len2:Nat→Nat} {G2:Nat→Nat→Value} {L2:List (Option Addr×Nat×Nat)} {B2:Nat→Nat} (_h:CR T C V v k len G L B) (h2:CR T' C V v2 k2 len2 G2 L2 B2) (hb:Below V.heap.size V wc) (hg:wc.grownBy w3 v.ownBlock) (hap:∀b,qN v k len B b→qN v2 k2 len2 B2 b→False) (H j:Nat) (hH:H<C) (u:Value):CR T' C (w3.setCell ⟨H,j,none⟩ u) v2 k2 len2 G2 L2 B2:=by
 have P:=(h2.below hb).on hg (fun b e q=>hap b (.inl e) q)
 exact P.on (aP w3 H j u) (fun b e q=>by injection e with e;have:=(P.lt q).1;omega)
structure Beg (w0 w:World) (B:Nat) (u0 v1 v2 v3:Value) (k1 k2 k3 sh:Nat) (l:List TxA) (L1 L2 L3:List (Option Addr×Nat×Nat)) (B1 B2 B3:Nat→Nat):Prop where
 c0:w.cell? ⟨B,0,none⟩=some u0
 c1:w.cell? ⟨B,1,none⟩=some v1
 c2:w.cell? ⟨B,2,none⟩=some v2
 c3:w.cell? ⟨B,3,none⟩=some v3
 fz:∀j,w.frozen? ⟨B,j,none⟩=false
 r1:CR 104 (B+1) w v1 k1 (fun _=>sh) (fun _ _=>.bool false) L1 B1
 r2:CR 104 (B+1) w v2 k2 (fun _=>sh) (fun _ _=>.bool false) L2 B2
 r3:CR 41 (B+1) w v3 k3 (fun i=>(gX l i).rs.length) (fun _ _=>.int .i64 0) L3 B3
 a12:∀b,qN v1 k1 (fun _=>sh) B1 b→qN v2 k2 (fun _=>sh) B2 b→False
 a13:∀b,qN v1 k1 (fun _=>sh) B1 b→qN v3 k3 (fun i=>(gX l i).rs.length) B3 b→False
 a23:∀b,qN v2 k2 (fun _=>sh) B2 b→qN v3 k3 (fun i=>(gX l i).rs.length) B3 b→False
 bl:Below w0.heap.size w0 w
 hw:w0.heap.size≤B
 hs:B<w.heap.size
theorem Beg.below {w0 V:World} {B:Nat} {u0 v1 v2 v3:Value} {k1 k2 k3 sh:Nat} {l:List TxA} {L1 L2 L3:List (Option Addr×Nat×Nat)} {B1 B2 B3:Nat→Nat} {w':World} (h:Beg w0 V B u0 v1 v2 v3 k1 k2 k3 sh l L1 L2 L3 B1 B2 B3) (hb:Below V.heap.size V w'):Beg w0 w' B u0 v1 v2 v3 k1 k2 k3 sh l L1 L2 L3 B1 B2 B3:=
 ⟨aB hb h.c0,aB hb h.c1,aB hb h.c2,aB hb h.c3,fun j=>(hb.frozen (p:=⟨B,j,none⟩) h.hs).trans (h.fz j),h.r1.below hb,h.r2.below hb,h.r3.below hb,h.a12,h.a13,h.a23,aC h.bl hb,h.hw,Nat.lt_of_lt_of_le h.hs hb.size⟩
theorem Beg.push1 {w0 V:World} {B:Nat} {u0 v1 v2 v3:Value} {k1 k2 k3 sh:Nat} {l:List TxA} {L1 L2 L3:List (Option Addr×Nat×Nat)} {B1 B2 B3:Nat→Nat} {wc w3:World} {v1':Value} {a:Option Addr} {c g:Nat} (hV:Beg w0 V B u0 v1 v2 v3 k1 k2 k3 sh l L1 L2 L3 B1 B2 B3) (hb:Below V.heap.size V wc)
  (ho:w3.ownsRow (B+1) 104 1 v1' (L1.length+1) ((L1.map fun p=>Value.slice p.1 p.2.1 p.2.2)++[.slice a sh c])) (hg:wc.grownBy w3 v1.ownBlock) (hv:v1'.ownBlock=v1.ownBlock∨v1'.ownBlock=some wc.heap.size)
  (hn:NewRow V.heap.size wc a c g sh (fun _=>.bool false)):∃B',Beg w0 (w3.setCell ⟨B,1,none⟩ v1') B u0 v1' v2 v3 (k1+1) k2 k3 sh l (L1++[(a,sh,c)]) L2 L3 B' B2 B3:=by
 have hc:=hV.below hb
 have hn:some B≠v1.ownBlock∧NewRow V.heap.size wc a c g sh (fun _=>.bool false):=⟨fun e=>by have:=(hc.r1.o.lt B e.symm).1;omega,hn⟩
 obtain⟨hn,hnr⟩:=hn
 obtain⟨B',P1,P2⟩:=hV.r1.pushed hb ho hg hv hnr (by have:=hV.hs;omega) B 1 (Nat.lt_succ_self _) v1'
 have hbl:Below w0.heap.size w0 w3:=hc.bl.grown hg hc.bl.size (fun j e=>by have:=(hc.r1.o.lt j e).1;have:=hc.hw;omega)
 exact⟨B',aE (by decide) (hg.cell hc.c0 hn),aK (hg.cell hc.c1 hn),aE (by decide) (hg.cell hc.c2 hn),aE (by decide) (hg.cell hc.c3 hn),fun j=>by
  simp only[World.frozen?_setCell]
  exact(World.frozen?_of_block (a:=⟨B,j,none⟩) (hg.block B hc.hs hn)).trans (hc.fz j),P1,CR.stays hV.r1 hV.r2 hb hg hV.a12 B 1 (Nat.lt_succ_self _) _,CR.stays hV.r1 hV.r3 hb hg hV.a13 B 1 (Nat.lt_succ_self _) _,(fun b p q=>(P2 b p).elim (fun p=>hV.a12 b p q) (fun p=>by have:=(hV.r2.lt q).2;omega)),(fun b p q=>(P2 b p).elim (fun p=>hV.a13 b p q) (fun p=>by have:=(hV.r3.lt q).2;omega)),hV.a23,aI hbl hc.hw _,hc.hw,by simp only[World.size_setCell];exact Nat.lt_of_lt_of_le hc.hs hg.size⟩
theorem Beg.push2 {w0 V:World} {B:Nat} {u0 v1 v2 v3:Value} {k1 k2 k3 sh:Nat} {l:List TxA} {L1 L2 L3:List (Option Addr×Nat×Nat)} {B1 B2 B3:Nat→Nat} {wc w3:World} {v2':Value} {a:Option Addr} {c g:Nat} (hV:Beg w0 V B u0 v1 v2 v3 k1 k2 k3 sh l L1 L2 L3 B1 B2 B3) (hb:Below V.heap.size V wc)
  (ho:w3.ownsRow (B+1) 104 1 v2' (L2.length+1) ((L2.map fun p=>Value.slice p.1 p.2.1 p.2.2)++[.slice a sh c])) (hg:wc.grownBy w3 v2.ownBlock) (hv:v2'.ownBlock=v2.ownBlock∨v2'.ownBlock=some wc.heap.size)
  (hn:NewRow V.heap.size wc a c g sh (fun _=>.bool false)):∃B',Beg w0 (w3.setCell ⟨B,2,none⟩ v2') B u0 v1 v2' v3 k1 (k2+1) k3 sh l L1 (L2++[(a,sh,c)]) L3 B1 B' B3:=by
 have hc:=hV.below hb
 have hn:some B≠v2.ownBlock∧NewRow V.heap.size wc a c g sh (fun _=>.bool false):=⟨fun e=>by have:=(hc.r2.o.lt B e.symm).1;omega,hn⟩
 obtain⟨hn,hnr⟩:=hn
 obtain⟨B',P1,P2⟩:=hV.r2.pushed hb ho hg hv hnr (by have:=hV.hs;omega) B 2 (Nat.lt_succ_self _) v2'
 have hbl:Below w0.heap.size w0 w3:=hc.bl.grown hg hc.bl.size (fun j e=>by have:=(hc.r2.o.lt j e).1;have:=hc.hw;omega)
 exact⟨B',aE (by decide) (hg.cell hc.c0 hn),aE (by decide) (hg.cell hc.c1 hn),aK (hg.cell hc.c2 hn),aE (by decide) (hg.cell hc.c3 hn),fun j=>by
  simp only[World.frozen?_setCell]
  exact(World.frozen?_of_block (a:=⟨B,j,none⟩) (hg.block B hc.hs hn)).trans (hc.fz j),CR.stays hV.r2 hV.r1 hb hg (fun b p q=>hV.a12 b q p) B 2 (Nat.lt_succ_self _) _,P1,CR.stays hV.r2 hV.r3 hb hg hV.a23 B 2 (Nat.lt_succ_self _) _,(fun b p q=>(P2 b q).elim (fun q=>hV.a12 b p q) (fun q=>by have:=(hV.r1.lt p).2;omega)),hV.a13,(fun b p q=>(P2 b p).elim (fun p=>hV.a23 b p q) (fun p=>by have:=(hV.r3.lt q).2;omega)),aI hbl hc.hw _,hc.hw,by simp only[World.size_setCell];exact Nat.lt_of_lt_of_le hc.hs hg.size⟩
theorem Beg.push3 {w0 V:World} {B:Nat} {u0 v1 v2 v3:Value} {k1 k2 k3 sh:Nat} {l:List TxA} {L1 L2 L3:List (Option Addr×Nat×Nat)} {B1 B2 B3:Nat→Nat} {wc w3:World} {v3':Value} {a:Option Addr} {c g:Nat} (hV:Beg w0 V B u0 v1 v2 v3 k1 k2 k3 sh l L1 L2 L3 B1 B2 B3) (hb:Below V.heap.size V wc)
  (ho:w3.ownsRow (B+1) 41 1 v3' (L3.length+1) ((L3.map fun p=>Value.slice p.1 p.2.1 p.2.2)++[.slice a (gX l k3).rs.length c])) (hg:wc.grownBy w3 v3.ownBlock) (hv:v3'.ownBlock=v3.ownBlock∨v3'.ownBlock=some wc.heap.size)
  (hn:NewRow V.heap.size wc a c g (gX l k3).rs.length (fun _=>.int .i64 0)):∃B',Beg w0 (w3.setCell ⟨B,3,none⟩ v3') B u0 v1 v2 v3' k1 k2 (k3+1) sh l L1 L2 (L3++[(a,(gX l k3).rs.length,c)]) B1 B2 B':=by
 have hc:=hV.below hb
 have hn:some B≠v3.ownBlock∧NewRow V.heap.size wc a c g (gX l k3).rs.length (fun _=>.int .i64 0):=⟨fun e=>by have:=(hc.r3.o.lt B e.symm).1;omega,hn⟩
 obtain⟨hn,hnr⟩:=hn
 obtain⟨B',P1,P2⟩:=hV.r3.pushed hb ho hg hv hnr (by have:=hV.hs;omega) B 3 (Nat.lt_succ_self _) v3'
 have hbl:Below w0.heap.size w0 w3:=hc.bl.grown hg hc.bl.size (fun j e=>by have:=(hc.r3.o.lt j e).1;have:=hc.hw;omega)
 exact⟨B',aE (by decide) (hg.cell hc.c0 hn),aE (by decide) (hg.cell hc.c1 hn),aE (by decide) (hg.cell hc.c2 hn),aK (hg.cell hc.c3 hn),fun j=>by
  simp only[World.frozen?_setCell]
  exact(World.frozen?_of_block (a:=⟨B,j,none⟩) (hg.block B hc.hs hn)).trans (hc.fz j),CR.stays hV.r3 hV.r1 hb hg (fun b p q=>hV.a13 b q p) B 3 (Nat.lt_succ_self _) _,CR.stays hV.r3 hV.r2 hb hg (fun b p q=>hV.a23 b q p) B 3 (Nat.lt_succ_self _) _,P1,hV.a12,(fun b p q=>(P2 b q).elim (fun q=>hV.a13 b p q) (fun q=>by have:=(hV.r1.lt p).2;omega)),(fun b p q=>(P2 b q).elim (fun q=>hV.a23 b p q) (fun q=>by have:=(hV.r2.lt p).2;omega)),aI hbl hc.hw _,hc.hw,by simp only[World.size_setCell];exact Nat.lt_of_lt_of_le hc.hs hg.size⟩
theorem sN {V:World} {z:Value} {n:Nat} {T T':TypeId} {u:Value} (hz:z.cells=#[z]):NewRow V.heap.size (((V.drew).alloc (.cells (madeCells z.cells n) T)).alloc (.cells #[u] T')) (some ⟨V.heap.size,0,none⟩) n V.heap.size n (fun _=>z):=by
 refine⟨fun _=>⟨rfl,Nat.le_refl _,by simp;omega,fun k hk=>?_,fun k=>?_⟩,(fun e=>by cases e),(fun ad e=>by injection e with e;subst e;exact Nat.le_refl _)⟩
 ·refine aB (aA (Below.refl _ _) _) (aG V.drew (madeCells z.cells n) T V.heap.size k z rfl ?_)
  rw[hz,←Array.getElem?_toList,toList_madeCells_one,List.getElem?_replicate,if_pos hk]
 ·exact((aA (Below.refl _ _) _:Below _ ((V.drew).alloc (.cells (madeCells z.cells n) T)) _).frozen (p:=⟨V.heap.size,k,none⟩) (by simp)).trans (cO V.drew _ T V.heap.size k rfl)
section
def BegQ (C:Nat) (l:List TxA) (sh:Nat) (S:SA) (q:Q4) (w:World):Prop:=q.sn=8∧q.rn=l.length∧q.wn=l.length∧q.vn=l.length∧Form sh l S∧∃g0 gr gw gv Br Bw Bv,NewRow C w q.sa q.sc g0 8 (fun k=>.int .i64 (S.st.getD k 0))∧OR C w.heap.size w q.ra l.length (fun _=>sh) (fun i k=>.bool (cM S.rd i k)) gr Br∧OR C w.heap.size w q.wa l.length (fun _=>sh) (fun i k=>.bool (cM S.wr i k)) gw Bw∧OR C w.heap.size w q.va l.length (fun i=>(gX l i).rs.length) (fun i k=>.int .i64 ((S.vs.getD i []).getD k 0)) gv Bv
theorem BegQ.set {C:Nat} {l:List TxA} {sh:Nat} {S:SA} {q:Q4} {w:World} (h:BegQ C l sh S q w) (b j:Nat) (u:Value) (hb:b<C):BegQ C l sh S q (w.setCell ⟨b,j,none⟩ u):=by
 obtain⟨e1,e2,e3,e4,f,g0,gr,gw,gv,Br,Bw,Bv,o0,o1,o2,o3⟩:=h
 refine⟨e1,e2,e3,e4,f,g0,gr,gw,gv,Br,Bw,Bv,o0.keep (dR _ _ _ _ _ (by have:=(o0.e (by decide)).2.1;omega)) (by rw[World.size_setCell];exact Nat.le_refl _),?_,?_,?_⟩
 ·rw[World.size_setCell];exact o1.far _ _ _ (.inl hb)
 ·rw[World.size_setCell];exact o2.far _ _ _ (.inl hb)
 ·rw[World.size_setCell];exact o3.far _ _ _ (.inl hb)
theorem BegQ.sta {C:Nat} {l:List TxA} {sh:Nat} {S:SA} {q:Q4} {w:World} (h:BegQ C l sh S q w) (h0:0<sh):StaQ S q w:=by
 obtain⟨e1,e2,e3,e4,f,g0,gr,gw,gv,Br,Bw,Bv,o0,o1,o2,o3⟩:=h
 refine⟨e1.trans f.st.symm,e2.trans f.rd.symm,e3.trans f.wr.symm,e4.trans f.vs.symm,fun k hk=>?_,fun i hi=>?_,fun i hi=>?_,fun i hi=>?_⟩
 ·rw[f.st]at hk
  obtain⟨a1,_,a3,a4,_⟩:=o0.e (by decide)
  exact⟨g0,0,a1,a3,by rw[Nat.zero_add];exact a4 k hk⟩
 ·rw[f.rd]at hi
  obtain⟨b,off,b',off',c',e,q1,q2,q3,q4⟩:=o1.isBR h0 (Nat.le_refl _) i hi
  refine⟨b,off,some ⟨b',off',none⟩,c',e,q1.2,by rw[f.rn i hi];exact q3,fun k hk=>?_,fun e=>by cases e⟩
  rw[f.rn i hi]at hk
  exact⟨b',off',rfl,q2.2,q4 k hk⟩
 ·rw[f.wr]at hi
  obtain⟨b,off,b',off',c',e,q1,q2,q3,q4⟩:=o2.isBR h0 (Nat.le_refl _) i hi
  refine⟨b,off,some ⟨b',off',none⟩,c',e,q1.2,by rw[f.wn i hi];exact q3,fun k hk=>?_,fun e=>by cases e⟩
  rw[f.wn i hi]at hk
  exact⟨b',off',rfl,q2.2,q4 k hk⟩
 ·rw[f.vs]at hi
  obtain⟨b,off,a',c',e,q1,q2,q3,q4,_,q5⟩:=o3.isIR f.vn (Nat.le_refl _) i hi
  exact⟨b,off,a',c',e,q1.2,by rw[f.vn i hi];exact q2,q4,q5⟩
theorem BegQ.staF {C:Nat} {l:List TxA} {sh:Nat} {S:SA} {q:Q4} {w:World} (h:BegQ C l sh S q w) (h0:0<sh):StaF C S q w:=fun w' h1 h2=>by
 obtain⟨e1,e2,e3,e4,f,g0,gr,gw,gv,Br,Bw,Bv,o0,o1,o2,o3⟩:=h
 refine BegQ.sta (C:=C) ⟨e1,e2,e3,e4,f,g0,gr,gw,gv,Br,Bw,Bv,o0.keep (h1 g0 (o0.e (by decide)).2.1 (o0.e (by decide)).2.2.1) h2,(o1.keep h1).mono (Nat.le_refl _) h2,(o2.keep h1).mono (Nat.le_refl _) h2,(o3.keep h1).mono (Nat.le_refl _) h2⟩ h0
theorem BegQ.low {C C':Nat} {l:List TxA} {sh:Nat} {S:SA} {q:Q4} {w:World} (h:BegQ C l sh S q w) (hc:C'≤C):BegQ C' l sh S q w:=by
 obtain⟨e1,e2,e3,e4,f,g0,gr,gw,gv,Br,Bw,Bv,o0,o1,o2,o3⟩:=h
 exact⟨e1,e2,e3,e4,f,g0,gr,gw,gv,Br,Bw,Bv,⟨fun hn=>⟨(o0.e hn).1,Nat.le_trans hc (o0.e hn).2.1,(o0.e hn).2.2⟩,o0.z,fun ad e=>Nat.le_trans hc (o0.lo ad e)⟩,o1.mono hc (Nat.le_refl _),o2.mono hc (Nat.le_refl _),o3.mono hc (Nat.le_refl _)⟩
theorem vs_beg (l:List TxA) (i k:Nat):((l.map fun x=>List.replicate x.rs.length (0:Int)).getD i []).getD k 0=0:=by
 rw[List.getD_eq_getElem?_getD,List.getD_eq_getElem?_getD,List.getElem?_map]
 cases l[i]? with
 | none=>rfl
 | some x=>
  simp only[Option.map_some,Option.getD_some,List.getElem?_replicate]
  split <;> rfl
theorem run_mk (w:World) (t e:TypeId) (i:TypeInfo) (z:Value) (ht:Tryz.prog.underlying t=some (.slice e)) (hi:Tryz.prog.info? e=some i) (hz:i.zero=some z) (h1:i.size=1) (h24:i.bytes≤24) (n:Nat) (hn:n≤8):(Instr.makeSlice t (.int .i64 (n:Int)) (.int .i64 (n:Int))).run Tryz.prog w=.ok (.slice (some ⟨w.heap.size,0,none⟩) n n) (w.alloc (.cells (madeCells z.cells n) e)):=by
 have hb:(i.bytes:Int)*(n:Int)≤281474976710656:=by
  have:i.bytes*n≤24*8:=Nat.mul_le_mul h24 hn
  have h':((i.bytes*n:Nat):Int)≤281474976710656:=by omega
  rwa [Int.natCast_mul]at h'
 have hr:=run_makeSlice (P:=Tryz.prog) w t e i z ht hi hz .i64 .i64 n n (by omega) (Int.le_refl _) (by rw[h1];simp only[Int.toNat_natCast];omega) hb (by omega)
 simp only[Int.toNat_natCast,h1,Nat.mul_one]at hr
 exact hr
def iI (m:Int) (l:List TxA) (s:List Int):Int:=aF [aM m l,bK s]
variable (la:Option Addr) (lc:Nat) (l:List TxA) (sa:Option Addr) (sc:Nat) (s:List Int)
theorem beg1_pan (m:Int) (p q:Nat) (w:World) (p0:w.cell? ⟨p,0,none⟩=some (.int .i64 m)) (p1:w.cell? ⟨p,1,none⟩=some (.slice la l.length lc)) (q0:w.cell? ⟨q,0,none⟩=some (.slice sa s.length sc)) (hl:IsTxs w la l) (he:¬iI m l s=0) :
  Calls Tryz.prog 77 #[.pointer (some ⟨p,0,none⟩),.pointer (some ⟨q,0,none⟩)] w fun e w'=>e=.panicked [{v:=.iface 22 (.int .i64 (iI m l s)),recovered:=false}]∧Below w.heap.size w w':=by
 have HE:Hid (¬aF [aM m l,bK s]=0):=he
 have hW:Hid (Below w.heap.size w (w.alloc (.cells #[.slice none 0 0,.slice none 0 0,.slice none 0 0,.slice none 0 0] 45))):=aA (Below.refl _ _) _
 have y0:=aB hW.out p0
 have y1:=aB hW.out p1
 have z0:=aB hW.out q0
 have HLW:Hid (IsTxs (w.alloc (.cells #[.slice none 0 0,.slice none 0 0,.slice none 0 0,.slice none 0 0] 45)) la l):=hl.below hW.out
 unfold iI
 clear hl he p0 p1 q0
 go_enter Tryz.func77,Tryz.ntmps77
 go_upto_region 1 with fail
 generalize (w.alloc (.cells #[.slice none 0 0,.slice none 0 0,.slice none 0 0,.slice none 0 0] 45))=W at *
 have KS:Hid (∀w',Below W.heap.size W w'→Below W.heap.size W w'∧w'.cell? ⟨p,0,none⟩=some (.int .i64 m)∧w'.cell? ⟨p,1,none⟩=some (.slice la l.length lc)∧w'.cell? ⟨q,0,none⟩=some (.slice sa s.length sc)):=fun w' hb=>⟨hb,aB hb y0,aB hb y1,aB hb z0⟩
 go_region_held (fun w'=>Below W.heap.size W w'∧w'.cell? ⟨p,0,none⟩=some (.int .i64 m)∧w'.cell? ⟨p,1,none⟩=some (.slice la l.length lc)∧w'.cell? ⟨q,0,none⟩=some (.slice sa s.length sc)) ((refine KS.out _ ?_;go_split_ands;repeat (first | assumption | exact Below.refl _ _ | exact Hid.out (by assumption) | refine aD ?_ | refine aA ?_ _ | refine aC ?_ (by assumption))))
  (first
   | (go_at_call 28;refine(bB la lc l m _ ?_).mono ?_;(refine HLW.out.below ?_;go_split_ands;repeat (first | assumption | exact Below.refl _ _ | exact Hid.out (by assumption) | refine aD ?_ | refine aA ?_ _ | refine aC ?_ (by assumption)));rintro e wx ⟨rfl,hbx⟩)
   | (go_at_call 78;refine(cC s sa sc _).mono ?_;rintro e w' ⟨rfl,rfl⟩)
   | (go_at_call 15;refine(dM (cH [aM m l,bK s] _ 2 _ (by simp) HE.out ?_) (.tuple #[])).mono ?_;(exact iU _ _ _ _ (by simp));rintro e w' (⟨rfl,rfl⟩ | ⟨hF,rfl,rfl⟩);(refine⟨rfl,rfl,aC hW.out ?_⟩;go_split_ands;repeat (first | assumption | exact Below.refl _ _ | exact Hid.out (by assumption) | refine aD ?_ | refine aA ?_ _ | refine aC ?_ (by assumption)))))
 exact(‹Hid False› : Hid False).out.elim
theorem beg1_ok (sh:Nat) (p q:Nat) (w:World) (p0:w.cell? ⟨p,0,none⟩=some (.int .i64 (sh:Int))) (p1:w.cell? ⟨p,1,none⟩=some (.slice la l.length lc)) (q0:w.cell? ⟨q,0,none⟩=some (.slice sa s.length sc)) (hl:IsTxs w la l) (hs:IsInts w sa s) (he:iI sh l s=0) :
  Calls Tryz.prog 77 #[.pointer (some ⟨p,0,none⟩),.pointer (some ⟨q,0,none⟩)] w fun e w'=>∃q:Q4,e=.returned (.agg #[.slice q.sa q.sn q.sc,.slice q.ra q.rn q.rc,.slice q.wa q.wn q.tc,.slice q.va q.vn q.vc])∧BegQ w.heap.size l sh (jC sh l s) q w'∧Below w.heap.size w w':=by
 obtain⟨hp,h8⟩:aM (sh:Int) l=0∧s.length=8:=by
  have h:=aR _ he
  have h0:aM (sh:Int) l=0:=h 0
  have h1:bK s=0:=h 1
  refine⟨h0,?_⟩
  by_cases c:s.length=8
  ·exact c
  ·have:bK s=1:=if_neg c
   omega
 have hz:=aY hp
 have hl8:=eD hz.2.2
 have hs0:0<sh:=by omega
 have hs4:sh≤4:=by omega
 have hr4:∀i,i<l.length→(gX l i).rs.length≤4:=fun i hi=>(bL _ _ _ (dH (fV hz.2.2 i hi)).1).1
 have HR4:Hid (∀i,i<l.length→(gX l i).rs.length≤4):=hr4
 have HE:Hid (aF [aM (sh:Int) l,bK s]=0):=he
 have FORM:Hid (Form sh l (jC sh l s)):=(inv_beg sh l s h8 (fun n hn=>lL (fV hz.2.2 n hn))).f
 obtain⟨W,hWe⟩:∃W:World,W=(w.alloc (.cells #[.slice none 0 0,.slice none 0 0,.slice none 0 0,.slice none 0 0] 45)):=⟨_,rfl⟩
 have hW:Hid (Below w.heap.size w W):=by subst hWe;exact aA (Below.refl _ _) _
 have y0:=aB hW.out p0
 have y1:=aB hW.out p1
 have z0:=aB hW.out q0
 have HLW:Hid (IsTxs W la l):=hl.below hW.out
 have HSW:Hid (IsInts W sa s):=hs.below hW.out
 have t0:∀j,j<4→W.cell? ⟨w.heap.size,j,none⟩=some (.slice none 0 0):=by
  subst hWe
  exact fun j hj=>by
   match j,hj with
   | 0,_=>exact aG _ _ 45 _ 0 _ rfl rfl
   | 1,_=>exact aG _ _ 45 _ 1 _ rfl rfl
   | 2,_=>exact aG _ _ 45 _ 2 _ rfl rfl
   | 3,_=>exact aG _ _ 45 _ 3 _ rfl rfl
 have T0:Hid (∀j,j<4→W.cell? ⟨w.heap.size,j,none⟩=some (.slice none 0 0)):=t0
 have TF:Hid (∀j,W.frozen? ⟨w.heap.size,j,none⟩=false):=by subst hWe;exact fun j=>cO _ _ 45 _ j rfl
 have sz:Hid (W.heap.size=w.heap.size+1):=by subst hWe;show _=_;simp
 have H8:Hid (s.length=8):=h8
 obtain⟨i4,hi4,hz4,hs4',hb4'⟩:=info_parts Tryz.info4
 obtain⟨i3,hi3,hz3,hs3,hb3'⟩:=info_parts Tryz.info3
 obtain⟨i65,hi65,hz65,hs65,hb65⟩:=info_parts Tryz.info104
 obtain⟨i25,hi25,hz25,hs25,hb25⟩:=info_parts Tryz.info41
 have hb4:i4.bytes≤24:=by omega
 have hb3:i3.bytes≤24:=by omega
 have hm1:sh≤8:=by omega
 obtain⟨MK4,hMK4⟩:∃c,c=madeCells (Value.bool false).cells sh:=⟨_,rfl⟩
 have hmk4:∀w,(Instr.makeSlice 104 (.int .i64 (sh:Int)) (.int .i64 (sh:Int))).run Tryz.prog w=.ok (.slice (some ⟨w.heap.size,0,none⟩) sh sh) (w.alloc (.cells MK4 4)):=fun w=>by rw[hMK4];exact run_mk w 104 4 i4 _ Tryz.underlying104 hi4 hz4 hs4' hb4 sh hm1
 have HMK4:Hid (MK4=madeCells (Value.bool false).cells sh):=hMK4
 clear hl he p0 p1 q0 hs hz hp t0 hr4 h8 hMK4
 have HWe:Hid (W=_):=hWe
 clear hWe
 go_enter Tryz.func77,Tryz.ntmps77
 go_upto_region 1 with fail
 rw[←HWe.out]
 clear HWe
 have KS:Hid (∀w',Below W.heap.size W w'→Below W.heap.size W w'∧w'.cell? ⟨p,0,none⟩=some (.int .i64 (sh:Int))∧w'.cell? ⟨p,1,none⟩=some (.slice la l.length lc)∧w'.cell? ⟨q,0,none⟩=some (.slice sa s.length sc)):=fun w' hb=>⟨hb,aB hb y0,aB hb y1,aB hb z0⟩
 go_region_held3 (fun w'=>Below W.heap.size W w'∧w'.cell? ⟨p,0,none⟩=some (.int .i64 (sh:Int))∧w'.cell? ⟨p,1,none⟩=some (.slice la l.length lc)∧w'.cell? ⟨q,0,none⟩=some (.slice sa s.length sc)) ((refine KS.out _ ?_;go_split_ands;repeat (first | assumption | exact Below.refl _ _ | exact Hid.out (by assumption) | refine aD ?_ | refine aA ?_ _ | refine aC ?_ (by assumption))))
  (first
   | (go_at_call 28;refine(bB la lc l (sh:Int) _ ?_).mono ?_;(refine HLW.out.below ?_;go_split_ands;repeat (first | assumption | exact Below.refl _ _ | exact Hid.out (by assumption) | refine aD ?_ | refine aA ?_ _ | refine aC ?_ (by assumption)));rintro e wx ⟨rfl,hbx⟩)
   | (go_at_call 78;refine(cC s sa sc _).mono ?_;rintro e w' ⟨rfl,rfl⟩)
   | (go_at_call 15;refine(aO [aM (sh:Int) l,bK s] _ 2 _ (by simp) HE.out ?_).mono ?_;(exact iU _ _ _ _ (by simp));rintro e w1 ⟨rfl,rfl⟩))
 have BW:Hid (Below W.heap.size W (w'.alloc (.cells #[.int .i64 (aM (sh:Int) l),.int .i64 (bK s)] 22))):=aA (aC (aD (Below.refl _ _)) hbx) _
 go_split_ands
 generalize w'.alloc (.cells #[.int .i64 (aM (sh:Int) l),.int .i64 (bK s)] 22)=w1 at *
 have q0:=aB BW.out z0
 have CL:Hid (Calls Tryz.prog 79 #[.slice sa s.length sc] w1 fun e w''=>∃a' c' g,e=.returned (.slice a' 8 c')∧NewRow w1.heap.size w'' a' c' g 8 (fun k=>.int .i64 (s.getD k 0))∧Below w1.heap.size w1 w''):=by
  have h:=kE 8 (fun k=>.int .i64 (s.getD k 0)) (fun k _=>⟨_,rfl⟩) sa sc w1 (by decide) (fun k hk=>by
   obtain⟨b,off,e,q1,q2⟩:=(HSW.out.below BW.out) k (by rw[H8.out];exact hk)
   exact⟨b,off,e,q1,q2⟩)
  rw[H8.out]
  exact h
 have Y1:Hid (W.cell? ⟨p,1,none⟩=some (.slice la l.length lc)):=y1
 have Y0:Hid (W.cell? ⟨p,0,none⟩=some (.int .i64 (sh:Int))):=y0
 clear y0 y1 z0 KS hbx
 go_wp2_with fail
 refine CL.out.mono ?_
 rintro e w2 ⟨a',c',g0,rfl,hn0,hb2⟩
 clear CL q0
 have B2:Hid (Below W.heap.size W w2):=aC BW.out hb2
 have R0:Hid (NewRow w1.heap.size w2 a' c' g0 8 (fun k=>.int .i64 (s.getD k 0))):=hn0
 have hWw:Hid (w.heap.size+1≤w1.heap.size∧w.heap.size<w2.heap.size∧g0<w2.heap.size):=by
  have e1:=BW.out.size
  have e2:=hb2.size
  have e3:=sz.out
  exact⟨by omega,by omega,(hn0.e (by decide)).2.2.1⟩
 have bU:Below w2.heap.size w2 (w2.alloc (.cells #[.slice a' 8 c',.slice none 0 0,.slice none 0 0,.slice none 0 0] 45)):=aA (Below.refl _ _) _
 have BG0:Hid (Beg w2 (w2.alloc (.cells #[.slice a' 8 c',.slice none 0 0,.slice none 0 0,.slice none 0 0] 45)) w2.heap.size (.slice a' 8 c') (.slice none 0 0) (.slice none 0 0) (.slice none 0 0) 0 0 0 sh l [] [] [] (fun _=>0) (fun _=>0) (fun _=>0)):=
  ⟨aG _ _ 45 _ 0 _ rfl rfl,aG _ _ 45 _ 1 _ rfl rfl,aG _ _ 45 _ 2 _ rfl rfl,aG _ _ 45 _ 3 _ rfl rfl,fun j=>cO _ _ 45 _ j rfl,CR.nil _ _ _ _ _ _,CR.nil _ _ _ _ _ _,CR.nil _ _ _ _ _ _,(fun b h _=>h.elim (fun h=>by cases h) (fun ⟨i,hi,_⟩=>absurd hi (Nat.not_lt_zero _))),(fun b h _=>h.elim (fun h=>by cases h) (fun ⟨i,hi,_⟩=>absurd hi (Nat.not_lt_zero _))),(fun b h _=>h.elim (fun h=>by cases h) (fun ⟨i,hi,_⟩=>absurd hi (Nat.not_lt_zero _))),bU,Nat.le_refl _,by simp⟩
 clear bU hn0 hb2 BW
 go_upto_region 3 with fail
 generalize (w2.alloc (.cells #[.slice a' 8 c',.slice none 0 0,.slice none 0 0,.slice none 0 0] 45))=W3 at *
 have y1:=aB (aC B2.out BG0.out.bl) Y1.out
 go_upto_region 4 with fail
 clear y1
 go_loopw [5,18] (fun _ i wr=>∃(k:Nat) (v1 v2 v3:Value) (L1 L2 L3:List (Option Addr×Nat×Nat)) (B1 B2 B3:Nat→Nat),k≤l.length∧i=.int .i64 k∧Hid (Beg w2 wr w2.heap.size (.slice a' 8 c') v1 v2 v3 k k k sh l L1 L2 L3 B1 B2 B3)) (fun _ i _=>l.length - (intOf i).toNat)
 case atStart=>exact⟨0,_,_,_,_,_,_,_,_,_,Nat.zero_le _,rfl,BG0⟩
 case round=>
  obtain⟨k,v1,v2,v3,L1,L2,L3,B1,B2',B3,hk,rfl,hB⟩:=hrel
  clear BG0
  by_cases hlt:k<l.length
  ·obtain⟨b,off,ea,_,t0,t1,t2,hx⟩:=(HLW.out.below B2.out) k hlt
   subst ea
   have d0:=aB hB.out.bl t0
   have d1:=aB hB.out.bl t1
   have d2:=aB hB.out.bl t2
   have i1:(k:Int)<(l.length:Int):=by omega
   have i0:(0:Int)≤(k:Int):=by omega
   have hr4:=HR4.out k hlt
   clear t0 t1 t2 hx
   generalize hgx:l.getD k x0=x at d0 d1 d2
   have HXE:Hid (gX l k=x):=hgx
   rw[show gX l k=x from hgx]at hr4
   clear hgx
   obtain⟨MK3,hMK3⟩:∃c,c=madeCells (Value.int .i64 0).cells x.rs.length:=⟨_,rfl⟩
   have hmk3:∀w,(Instr.makeSlice 41 (.int .i64 (x.rs.length:Int)) (.int .i64 (x.rs.length:Int))).run Tryz.prog w=.ok (.slice (some ⟨w.heap.size,0,none⟩) x.rs.length x.rs.length) (w.alloc (.cells MK3 3)):=fun w=>by rw[hMK3];exact run_mk w 41 3 i3 _ Tryz.underlying41 hi3 hz3 hs3 hb3 _ (by omega)
   have HMK3:Hid (MK3=madeCells (Value.int .i64 0).cells x.rs.length):=hMK3
   clear hMK3
   go_upto_region 6 with fail
   have bX:Below wr.heap.size wr (wr.alloc (.cells #[.slice x.ra x.rs.length x.rc,.slice x.ga x.gs.length x.gc,.slice x.sa x.ss.length x.sc] 95)):=aA (Below.refl _ _) _
   have HB1:Hid (Beg w2 (wr.alloc (.cells #[.slice x.ra x.rs.length x.rc,.slice x.ga x.gs.length x.gc,.slice x.sa x.ss.length x.sc] 95)) w2.heap.size (.slice a' 8 c') v1 v2 v3 k k k sh l L1 L2 L3 B1 B2' B3):=hB.out.below bX
   have fX:Hid (w2.heap.size≠wr.heap.size∧(∀j,v1.ownBlock=some j∨v2.ownBlock=some j∨v3.ownBlock=some j→j≠wr.heap.size)):=⟨by have:=hB.out.hs;omega,fun j h=>by
    rcases h with h | h | h
    ·have:=(hB.out.r1.o.lt _ h).2;omega
    ·have:=(hB.out.r2.o.lt _ h).2;omega
    ·have:=(hB.out.r3.o.lt _ h).2;omega⟩
   have xc:(wr.alloc (.cells #[.slice x.ra x.rs.length x.rc,.slice x.ga x.gs.length x.gc,.slice x.sa x.ss.length x.sc] 95)).cell? ⟨wr.heap.size,0,none⟩=some (.slice x.ra x.rs.length x.rc):=aG wr _ 95 _ 0 _ rfl rfl
   clear bX hB d0 d1 d2
   generalize (wr.alloc (.cells #[.slice x.ra x.rs.length x.rc,.slice x.ga x.gs.length x.gc,.slice x.sa x.ss.length x.sc] 95))=V at *
   generalize wr.heap.size=X at *
   have P0:Hid (∀w',Below w2.heap.size w2 w'→w'.cell? ⟨p,0,none⟩=some (.int .i64 (sh:Int))):=fun w' hb=>aB (aC B2.out hb) Y0.out
   have e0:=P0.out V HB1.out.bl
   have hbN:Below V.heap.size V (((V.drew).alloc (.cells MK4 4)).alloc (.cells #[.slice (some ⟨V.heap.size,0,none⟩) sh sh] 104)):=aA (aA (aD (Below.refl _ _)) _) _
   have HBN:Hid (Below V.heap.size V (((V.drew).alloc (.cells MK4 4)).alloc (.cells #[.slice (some ⟨V.heap.size,0,none⟩) sh sh] 104))):=hbN
   have HN:Hid (Beg w2 (((V.drew).alloc (.cells MK4 4)).alloc (.cells #[.slice (some ⟨V.heap.size,0,none⟩) sh sh] 104)) w2.heap.size (.slice a' 8 c') v1 v2 v3 k k k sh l L1 L2 L3 B1 B2' B3):=HB1.out.below hbN
   have c1:=HB1.out.c1
   have od1:∀o,(V.alloc o).cell? ⟨w2.heap.size,1,none⟩=some v1:=fun o=>aB (aA (Below.refl _ _) o) c1
   have od2:∀o o',((V.alloc o).alloc o').cell? ⟨w2.heap.size,1,none⟩=some v1:=fun o o'=>aB (aA (aA (Below.refl _ _) o) o') c1
   have hsm:Hid (L1.length≤100):=by show _≤_;have e:=HB1.out.r1.n;omega
   clear hbN
   go_cut [] (fun wx=>∃(v1':Value) (L1':List (Option Addr×Nat×Nat)) (B1':Nat→Nat),Hid (Beg w2 wx w2.heap.size (.slice a' 8 c') v1' v2 v3 (k+1) k k sh l L1' L2 L3 B1' B2' B3)∧wx.cell? ⟨X,0,none⟩=some (.slice x.ra x.rs.length x.rc))
   case first=>
    go_region_law (first
      | (refine cQ (by rfl) _ _ 42 104 (by rfl) i65 _ Tryz.underlying42 hi65 hz65 hs65 hb65 rfl (w2.heap.size+1) v1 L1.length _ (by rfl) HN.out.r1.o ⟨_,0,none⟩ 1 (.slice (some ⟨V.heap.size,0,none⟩) sh sh) (by rfl) (aG _ _ 104 _ 0 _ (by simp) rfl) rfl hsm.out HN.out.hs ?_;intro v' w5 ho3 hg3 hv3;obtain⟨g',cap',rfl,_,_⟩:=ho3.form (by simp);have oc:w5.cell? ⟨w2.heap.size,1,none⟩=some v1:=hg3.cell HN.out.c1 (fun e=>by have:=(HN.out.r1.o.lt w2.heap.size e.symm).1;omega);have of3:w5.frozen? ⟨w2.heap.size,1,none⟩=false:=(World.frozen?_of_block (a:=⟨w2.heap.size,1,none⟩) (hg3.block w2.heap.size HN.out.hs (fun e=>by have:=(HN.out.r1.o.lt w2.heap.size e.symm).1;omega))).trans (HN.out.fz 1)))
    all_goals (
     go_wp2_with fail
     go_meet
     obtain⟨B',PB⟩:=Beg.push1 HB1.out HBN.out ho3 hg3 hv3 (by rw[HMK4.out];exact sN rfl)
     exact⟨_,_,B',PB,by rw[World.cell?_setCell_far _ _ _ _ (by simpa using fX.out.1)];exact hg3.cell (aB HBN.out xc) (fun e=>fX.out.2 X (.inl e.symm) rfl)⟩)
   case rest=>
    obtain⟨v1',L1',B1',HB2,xc⟩:=hcut
    obtain⟨V2,hren⟩:∃V2:World,V2=wc:=⟨_,rfl⟩
    subst hren
    clear c1 od1 od2 hsm HN HBN HB1 e0
    have e0:=P0.out V2 HB2.out.bl
    have hbN:Below V2.heap.size V2 (((V2.drew).alloc (.cells MK4 4)).alloc (.cells #[.slice (some ⟨V2.heap.size,0,none⟩) sh sh] 104)):=aA (aA (aD (Below.refl _ _)) _) _
    have HBN:Hid (Below V2.heap.size V2 (((V2.drew).alloc (.cells MK4 4)).alloc (.cells #[.slice (some ⟨V2.heap.size,0,none⟩) sh sh] 104))):=hbN
    have HN:Hid (Beg w2 (((V2.drew).alloc (.cells MK4 4)).alloc (.cells #[.slice (some ⟨V2.heap.size,0,none⟩) sh sh] 104)) w2.heap.size (.slice a' 8 c') v1' v2 v3 (k+1) k k sh l L1' L2 L3 B1' B2' B3):=HB2.out.below hbN
    have c2:=HB2.out.c2
    have od1:∀o,(V2.alloc o).cell? ⟨w2.heap.size,2,none⟩=some v2:=fun o=>aB (aA (Below.refl _ _) o) c2
    have od2:∀o o',((V2.alloc o).alloc o').cell? ⟨w2.heap.size,2,none⟩=some v2:=fun o o'=>aB (aA (aA (Below.refl _ _) o) o') c2
    have hsm:Hid (L2.length≤100):=by show _≤_;have e:=HB2.out.r2.n;omega
    clear hbN
    go_upto_region 7 with fail
    go_cut [] (fun wx=>∃(v2':Value) (L2':List (Option Addr×Nat×Nat)) (B2'':Nat→Nat),Hid (Beg w2 wx w2.heap.size (.slice a' 8 c') v1' v2' v3 (k+1) (k+1) k sh l L1' L2' L3 B1' B2'' B3)∧wx.cell? ⟨X,0,none⟩=some (.slice x.ra x.rs.length x.rc))
    case first=>
     go_region_law (first
      | (refine cQ (by rfl) _ _ 42 104 (by rfl) i65 _ Tryz.underlying42 hi65 hz65 hs65 hb65 rfl (w2.heap.size+1) v2 L2.length _ (by rfl) HN.out.r2.o ⟨_,0,none⟩ 1 (.slice (some ⟨V2.heap.size,0,none⟩) sh sh) (by rfl) (aG _ _ 104 _ 0 _ (by simp) rfl) rfl hsm.out HN.out.hs ?_;intro v' w5 ho3 hg3 hv3;obtain⟨g',cap',rfl,_,_⟩:=ho3.form (by simp);have oc:w5.cell? ⟨w2.heap.size,2,none⟩=some v2:=hg3.cell HN.out.c2 (fun e=>by have:=(HN.out.r2.o.lt w2.heap.size e.symm).1;omega);have of3:w5.frozen? ⟨w2.heap.size,2,none⟩=false:=(World.frozen?_of_block (a:=⟨w2.heap.size,2,none⟩) (hg3.block w2.heap.size HN.out.hs (fun e=>by have:=(HN.out.r2.o.lt w2.heap.size e.symm).1;omega))).trans (HN.out.fz 2)))
     all_goals (
      go_wp2_with fail
      go_meet
      obtain⟨B',PB⟩:=Beg.push2 HB2.out HBN.out ho3 hg3 hv3 (by rw[HMK4.out];exact sN rfl)
      exact⟨_,_,B',PB,by rw[World.cell?_setCell_far _ _ _ _ (by simpa using fX.out.1)];exact hg3.cell (aB HBN.out xc) (fun e=>fX.out.2 X (.inr (.inl e.symm)) rfl)⟩)
    case rest=>
     obtain⟨v2',L2',B2'',HB3,xc⟩:=hcut
     obtain⟨V3,hren⟩:∃V3:World,V3=wc:=⟨_,rfl⟩
     subst hren
     clear c2 od1 od2 hsm HN HBN HB2 e0 P0
     have hbN:Below V3.heap.size V3 (((V3.drew).alloc (.cells MK3 3)).alloc (.cells #[.slice (some ⟨V3.heap.size,0,none⟩) x.rs.length x.rs.length] 41)):=aA (aA (aD (Below.refl _ _)) _) _
     have HBN:Hid (Below V3.heap.size V3 (((V3.drew).alloc (.cells MK3 3)).alloc (.cells #[.slice (some ⟨V3.heap.size,0,none⟩) x.rs.length x.rs.length] 41))):=hbN
     have HN:Hid (Beg w2 (((V3.drew).alloc (.cells MK3 3)).alloc (.cells #[.slice (some ⟨V3.heap.size,0,none⟩) x.rs.length x.rs.length] 41)) w2.heap.size (.slice a' 8 c') v1' v2' v3 (k+1) (k+1) k sh l L1' L2' L3 B1' B2'' B3):=HB3.out.below hbN
     have c3:=HB3.out.c3
     have od1:∀o,(V3.alloc o).cell? ⟨w2.heap.size,3,none⟩=some v3:=fun o=>aB (aA (Below.refl _ _) o) c3
     have od2:∀o o',((V3.alloc o).alloc o').cell? ⟨w2.heap.size,3,none⟩=some v3:=fun o o'=>aB (aA (aA (Below.refl _ _) o) o') c3
     have hsm:Hid (L3.length≤100):=by show _≤_;have e:=HB3.out.r3.n;omega
     clear hbN
     go_upto_region 8 with fail
     go_region_law (first
      | (refine cQ (by rfl) _ _ 43 41 (by rfl) i25 _ Tryz.underlying43 hi25 hz25 hs25 hb25 rfl (w2.heap.size+1) v3 L3.length _ (by rfl) HN.out.r3.o ⟨_,0,none⟩ 1 (.slice (some ⟨V3.heap.size,0,none⟩) x.rs.length x.rs.length) (by rfl) (aG _ _ 41 _ 0 _ (by simp) rfl) rfl hsm.out HN.out.hs ?_;intro v' w5 ho3 hg3 hv3;obtain⟨g',cap',rfl,_,_⟩:=ho3.form (by simp);have oc:w5.cell? ⟨w2.heap.size,3,none⟩=some v3:=hg3.cell HN.out.c3 (fun e=>by have:=(HN.out.r3.o.lt w2.heap.size e.symm).1;omega);have of3:w5.frozen? ⟨w2.heap.size,3,none⟩=false:=(World.frozen?_of_block (a:=⟨w2.heap.size,3,none⟩) (hg3.block w2.heap.size HN.out.hs (fun e=>by have:=(HN.out.r3.o.lt w2.heap.size e.symm).1;omega))).trans (HN.out.fz 3)))
     all_goals (
      have HP:Hid (∃B3',Beg w2 (w5.setCell ⟨w2.heap.size,3,none⟩ (.slice (some ⟨g',0,none⟩) (L3.length+1) cap')) w2.heap.size (.slice a' 8 c') v1' v2' (.slice (some ⟨g',0,none⟩) (L3.length+1) cap') (k+1) (k+1) (k+1) sh l L1' L2' (L3++[(some ⟨V3.heap.size,0,none⟩,(gX l k).rs.length,x.rs.length)]) B1' B2'' B3'):=Beg.push3 (g:=V3.heap.size) HB3.out HBN.out (by rw[HXE.out];exact ho3) hg3 hv3 (by rw[HXE.out,HMK3.out];exact sN rfl)
      clear c3 od1 od2 hsm HN HBN HB3 xc ho3 hg3 hv3 oc of3
      generalize (w5.setCell ⟨w2.heap.size,3,none⟩ (.slice (some ⟨g',0,none⟩) (L3.length+1) cap'))=WF at *
      go_wp2
      go_roundw
      case rel=>
       obtain⟨B3',hp⟩:=HP.out
       exact⟨k+1,v1',v2',_,L1',L2',_,B1',B2'',B3',by omega,by go_num,hp⟩
      case measure=>simp[intOf];omega)
  ·have hkk:k=l.length:=by omega
   subst hkk
   have i1:¬(l.length:Int)<(l.length:Int):=by omega
   obtain⟨a1,k1,g1,hv1,o1⟩:=hB.out.r1.fin
   obtain⟨a2,k2,g2,hv2,o2⟩:=hB.out.r2.fin
   obtain⟨a3,k3,g3,hv3,o3⟩:=hB.out.r3.fin
   subst hv1 hv2 hv3
   have z0:=hB.out.c0
   have z1:=hB.out.c1
   have z2:=hB.out.c2
   have z3:=hB.out.c3
   have bw:Below W.heap.size W wr:=aC B2.out hB.out.bl
   have v0:=aB bw (T0.out 0 (by decide))
   have v1:=aB bw (T0.out 1 (by decide))
   have v2:=aB bw (T0.out 2 (by decide))
   have v3:=aB bw (T0.out 3 (by decide))
   have vf:∀j,wr.frozen? ⟨w.heap.size,j,none⟩=false:=fun j=>(bw.frozen (p:=⟨w.heap.size,j,none⟩) (by have:=sz.out;show w.heap.size<_;omega)).trans (TF.out j)
   have RN:NewRow (w.heap.size+1) wr a' c' g0 8 (fun k=>.int .i64 (s.getD k 0)):=by
    have r:=R0.out.below hB.out.bl
    have e1:=hWw.out
    have hh:=sz.out
    exact⟨fun hn=>⟨(r.e hn).1,by have:=(r.e hn).2.1;omega,(r.e hn).2.2⟩,r.z,fun ad e=>by have:=r.lo ad e;omega⟩
   have FQ:Hid (BegQ (w.heap.size+1) l sh (jC sh l s) ⟨a',a1,a2,a3,8,l.length,l.length,l.length,c',k1,k2,k3⟩ wr):=by
    have hC:w.heap.size+1≤w2.heap.size+1:=by have:=hWw.out;omega
    exact⟨rfl,rfl,rfl,rfl,FORM.out,g0,g1,g2,g3,B1,B2',B3,RN,(o1.mono hC (Nat.le_refl _)).congr (fun i k _ _=>by show Value.bool (cM (l.map fun _=>List.replicate sh false) i k)=_;rw[qY]),(o2.mono hC (Nat.le_refl _)).congr (fun i k _ _=>by show Value.bool (cM (l.map fun _=>List.replicate sh false) i k)=_;rw[qY]),(o3.mono hC (Nat.le_refl _)).congr (fun i k _ _=>by show Value.int .i64 (((l.map fun x=>List.replicate x.rs.length (0:Int)).getD i []).getD k 0)=_;rw[vs_beg])⟩
   have FF:Hid (BegQ (w.heap.size+1) l sh (jC sh l s) ⟨a',a1,a2,a3,8,l.length,l.length,l.length,c',k1,k2,k3⟩ ((((wr.setCell ⟨w.heap.size,0,none⟩ (.slice a' 8 c')).setCell ⟨w.heap.size,1,none⟩ (.slice a1 l.length k1)).setCell ⟨w.heap.size,2,none⟩ (.slice a2 l.length k2)).setCell ⟨w.heap.size,3,none⟩ (.slice a3 l.length k3))∧Below w.heap.size w ((((wr.setCell ⟨w.heap.size,0,none⟩ (.slice a' 8 c')).setCell ⟨w.heap.size,1,none⟩ (.slice a1 l.length k1)).setCell ⟨w.heap.size,2,none⟩ (.slice a2 l.length k2)).setCell ⟨w.heap.size,3,none⟩ (.slice a3 l.length k3))):=⟨(((FQ.out.set _ 0 _ (Nat.lt_succ_self _)).set _ 1 _ (Nat.lt_succ_self _)).set _ 2 _ (Nat.lt_succ_self _)).set _ 3 _ (Nat.lt_succ_self _),aI (aI (aI (aI (aC hW.out bw) (Nat.le_refl _) _) (Nat.le_refl _) _) (Nat.le_refl _) _) (Nat.le_refl _) _⟩
   clear FQ RN o1 o2 o3 hB bw
   go_wp2_with fail
   have x0:((((wr.setCell ⟨w.heap.size,0,none⟩ (.slice a' 8 c')).setCell ⟨w.heap.size,1,none⟩ (.slice a1 l.length k1)).setCell ⟨w.heap.size,2,none⟩ (.slice a2 l.length k2)).setCell ⟨w.heap.size,3,none⟩ (.slice a3 l.length k3)).cell? ⟨w.heap.size,0,none⟩=some (.slice a' 8 c'):=(aE (by decide) (aE (by decide) (aE (by decide) (aK v0))))
   have x1:((((wr.setCell ⟨w.heap.size,0,none⟩ (.slice a' 8 c')).setCell ⟨w.heap.size,1,none⟩ (.slice a1 l.length k1)).setCell ⟨w.heap.size,2,none⟩ (.slice a2 l.length k2)).setCell ⟨w.heap.size,3,none⟩ (.slice a3 l.length k3)).cell? ⟨w.heap.size,1,none⟩=some (.slice a1 l.length k1):=(aE (by decide) (aE (by decide) (aK (aE (by decide) v1))))
   have x2:((((wr.setCell ⟨w.heap.size,0,none⟩ (.slice a' 8 c')).setCell ⟨w.heap.size,1,none⟩ (.slice a1 l.length k1)).setCell ⟨w.heap.size,2,none⟩ (.slice a2 l.length k2)).setCell ⟨w.heap.size,3,none⟩ (.slice a3 l.length k3)).cell? ⟨w.heap.size,2,none⟩=some (.slice a2 l.length k2):=(aE (by decide) (aK (aE (by decide) (aE (by decide) v2))))
   have x3:((((wr.setCell ⟨w.heap.size,0,none⟩ (.slice a' 8 c')).setCell ⟨w.heap.size,1,none⟩ (.slice a1 l.length k1)).setCell ⟨w.heap.size,2,none⟩ (.slice a2 l.length k2)).setCell ⟨w.heap.size,3,none⟩ (.slice a3 l.length k3)).cell? ⟨w.heap.size,3,none⟩=some (.slice a3 l.length k3):=(aK (aE (by decide) (aE (by decide) (aE (by decide) v3))))
   generalize ((((wr.setCell ⟨w.heap.size,0,none⟩ (.slice a' 8 c')).setCell ⟨w.heap.size,1,none⟩ (.slice a1 l.length k1)).setCell ⟨w.heap.size,2,none⟩ (.slice a2 l.length k2)).setCell ⟨w.heap.size,3,none⟩ (.slice a3 l.length k3))=W7 at *
   refine bodyPost_ret (v:=.agg #[.slice a' 8 c',.slice a1 l.length k1,.slice a2 l.length k2,.slice a3 l.length k3]) (by simp[results,Tryz.results77,go_sem,x0,x1,x2,x3]) rfl ⟨⟨a',a1,a2,a3,8,l.length,l.length,l.length,c',k1,k2,k3⟩,rfl,FF.out.1.low (Nat.le_succ _),FF.out.2⟩
end
section
def cA (m:Int) (l:List TxA) (s:List Int):SA:=if iI m l s=0 then jC m.toNat l s else uC
theorem begE_zero {m:Int} {l:List TxA} {s:List Int} (h:iI m l s=0):∃sh:Nat,m=sh∧0<sh∧sh≤4∧aM m l=0∧s.length=8:=by
 have h':=aR _ h
 have h0:aM m l=0:=h' 0
 have h1:bK s=0:=h' 1
 have hz:=aY h0
 refine⟨m.toNat,by omega,by omega,by omega,h0,?_⟩
 by_cases c:s.length=8
 ·exact c
 ·have:bK s=1:=if_neg c
  omega
variable (la:Option Addr) (lc:Nat) (l:List TxA) (sa:Option Addr) (sc:Nat) (s:List Int)
theorem rH (m:Int) (w:World) (hl:IsTxs w la l) (hs:IsInts w sa s) :
  Calls Tryz.prog 40 #[.agg #[.int .i64 m,.slice la l.length lc],.slice sa s.length sc] w fun e w'=>∃q:Q4,e=.returned (.tuple #[.agg #[.slice q.sa q.sn q.sc,.slice q.ra q.rn q.rc,.slice q.wa q.wn q.tc,.slice q.va q.vn q.vc],.int .i64 (iI m l s)])∧StaF w.heap.size (cA m l s) q w'∧Below w.heap.size w w':=by
 have hg:Below w.heap.size w (((((w.alloc (.cells #[.int .i64 m,.slice la l.length lc] 29)).alloc (.cells #[.slice sa s.length sc] 41)).alloc (.cells #[.slice none 0 0,.slice none 0 0,.slice none 0 0,.slice none 0 0] 45)).alloc (.cells #[.slice none 0 0,.slice none 0 0,.slice none 0 0,.slice none 0 0] 45)).alloc (.cells #[.int .i64 0] 22)):=(aA (aA (aA (aA (aA (Below.refl _ _) _) _) _) _) _)
 have hU:Hid (Below w.heap.size w (((w.alloc (.cells #[.int .i64 m,.slice la l.length lc] 29)).alloc (.cells #[.slice sa s.length sc] 41)).alloc (.cells #[.slice none 0 0,.slice none 0 0,.slice none 0 0,.slice none 0 0] 45))):=(aA (aA (aA (Below.refl _ _) _) _) _)
 have hmf:∀(fn:Fn) (first cap:Array Value) (w:World),(Instr.makeFunc fn first cap).run Tryz.prog w=.ok (.func fn first cap) w:=fun _ _ _ _=>rfl
 have p0:(((((w.alloc (.cells #[.int .i64 m,.slice la l.length lc] 29)).alloc (.cells #[.slice sa s.length sc] 41)).alloc (.cells #[.slice none 0 0,.slice none 0 0,.slice none 0 0,.slice none 0 0] 45)).alloc (.cells #[.slice none 0 0,.slice none 0 0,.slice none 0 0,.slice none 0 0] 45)).alloc (.cells #[.int .i64 0] 22)).cell? ⟨w.heap.size,0,none⟩=some (.int .i64 m):=aB (aA (aA (aA (aA (Below.refl _ _) _) _) _) _) (aG _ _ 29 _ 0 _ (by first | rfl | simp) rfl)
 have p1:(((((w.alloc (.cells #[.int .i64 m,.slice la l.length lc] 29)).alloc (.cells #[.slice sa s.length sc] 41)).alloc (.cells #[.slice none 0 0,.slice none 0 0,.slice none 0 0,.slice none 0 0] 45)).alloc (.cells #[.slice none 0 0,.slice none 0 0,.slice none 0 0,.slice none 0 0] 45)).alloc (.cells #[.int .i64 0] 22)).cell? ⟨w.heap.size,1,none⟩=some (.slice la l.length lc):=aB (aA (aA (aA (aA (Below.refl _ _) _) _) _) _) (aG _ _ 29 _ 1 _ (by first | rfl | simp) rfl)
 have q0:(((((w.alloc (.cells #[.int .i64 m,.slice la l.length lc] 29)).alloc (.cells #[.slice sa s.length sc] 41)).alloc (.cells #[.slice none 0 0,.slice none 0 0,.slice none 0 0,.slice none 0 0] 45)).alloc (.cells #[.slice none 0 0,.slice none 0 0,.slice none 0 0,.slice none 0 0] 45)).alloc (.cells #[.int .i64 0] 22)).cell? ⟨w.heap.size+1,0,none⟩=some (.slice sa s.length sc):=aB (aA (aA (aA (Below.refl _ _) _) _) _) (aG _ _ 41 _ 0 _ (by first | rfl | simp) rfl)
 have T0:Hid (∀j,j<4→(((w.alloc (.cells #[.int .i64 m,.slice la l.length lc] 29)).alloc (.cells #[.slice sa s.length sc] 41)).alloc (.cells #[.slice none 0 0,.slice none 0 0,.slice none 0 0,.slice none 0 0] 45)).cell? ⟨w.heap.size+2,j,none⟩=some (.slice none 0 0)):=fun j hj=>by
  match j,hj with
  | 0,_=>exact aG _ _ 45 _ 0 _ (by simp) rfl
  | 1,_=>exact aG _ _ 45 _ 1 _ (by simp) rfl
  | 2,_=>exact aG _ _ 45 _ 2 _ (by simp) rfl
  | 3,_=>exact aG _ _ 45 _ 3 _ (by simp) rfl
 have TF:Hid (∀j,(((w.alloc (.cells #[.int .i64 m,.slice la l.length lc] 29)).alloc (.cells #[.slice sa s.length sc] 41)).alloc (.cells #[.slice none 0 0,.slice none 0 0,.slice none 0 0,.slice none 0 0] 45)).frozen? ⟨w.heap.size+2,j,none⟩=false):=fun j=>cO _ _ 45 _ j (by simp)
 have sz:Hid ((((w.alloc (.cells #[.int .i64 m,.slice la l.length lc] 29)).alloc (.cells #[.slice sa s.length sc] 41)).alloc (.cells #[.slice none 0 0,.slice none 0 0,.slice none 0 0,.slice none 0 0] 45)).heap.size=w.heap.size+3):=by show _=_;simp
 have CC:Hid (Calls Tryz.prog 76 #[.func (.func 77) #[] #[.pointer (some ⟨w.heap.size,0,none⟩),.pointer (some ⟨w.heap.size+1,0,none⟩)]] (((w.alloc (.cells #[.int .i64 m,.slice la l.length lc] 29)).alloc (.cells #[.slice sa s.length sc] 41)).alloc (.cells #[.slice none 0 0,.slice none 0 0,.slice none 0 0,.slice none 0 0] 45)) fun e w'=>∃q:Q4,e=.returned (.tuple #[.agg #[.slice q.sa q.sn q.sc,.slice q.ra q.rn q.rc,.slice q.wa q.wn q.tc,.slice q.va q.vn q.vc],.int .i64 (iI m l s)])∧StaF (w.heap.size+3) (cA m l s) q w'∧Below (((w.alloc (.cells #[.int .i64 m,.slice la l.length lc] 29)).alloc (.cells #[.slice sa s.length sc] 41)).alloc (.cells #[.slice none 0 0,.slice none 0 0,.slice none 0 0,.slice none 0 0] 45)).heap.size (((w.alloc (.cells #[.int .i64 m,.slice la l.length lc] 29)).alloc (.cells #[.slice sa s.length sc] 41)).alloc (.cells #[.slice none 0 0,.slice none 0 0,.slice none 0 0,.slice none 0 0] 45)) w'):=by
  by_cases hE:iI m l s=0
  ·have e2:cA m l s=jC m.toNat l s:=if_pos hE
   obtain⟨sh,rfl,h0,_,_,_⟩:=begE_zero hE
   rw[e2,hE]
   refine(nU 77 _ (fun _=>rfl) (fun q w'=>BegQ (w.heap.size+5) l sh (jC sh l s) q w') _ (fun q w' i u j hj h=>h.set j i u (by have:=sz.out;omega)) ((beg1_ok la lc l sa sc s sh _ _ _ p0 p1 q0 (hl.below hg) (hs.below hg) hE).mono ?_)).mono ?_
   ·rintro e w' ⟨q,rfl,ho,hb⟩
    exact⟨q,rfl,ho.low (by simp),hb⟩
   ·rintro e w' ⟨q,rfl,ho,hb⟩
    exact⟨q,rfl,(ho.staF h0).low (by omega),hb⟩
  ·have e2:cA m l s=uC:=if_neg hE
   rw[e2]
   refine(kH 77 _ (fun _=>rfl) _ _ (beg1_pan la lc l sa sc s m _ _ _ p0 p1 q0 (hl.below hg) hE)).mono ?_
   rintro e w' ⟨rfl,hb⟩
   exact⟨aAh,rfl,rK _ _,hb⟩
 clear hg p0 p1 q0 hl hs
 go_enter Tryz.func40,Tryz.ntmps40
 go_upto_region 1 with fail
 generalize (((w.alloc (.cells #[.int .i64 m,.slice la l.length lc] 29)).alloc (.cells #[.slice sa s.length sc] 41)).alloc (.cells #[.slice none 0 0,.slice none 0 0,.slice none 0 0,.slice none 0 0] 45))=W at *
 go_wp2_with fail
 refine CC.out.mono ?_
 clear CC
 rintro e w1 ⟨q,rfl,hq,hb⟩
 have t0:=aB hb (T0.out 0 (by decide))
 have t1:=aB hb (T0.out 1 (by decide))
 have t2:=aB hb (T0.out 2 (by decide))
 have t3:=aB hb (T0.out 3 (by decide))
 have tf:∀j,w1.frozen? ⟨w.heap.size+2,j,none⟩=false:=fun j=>(hb.frozen (p:=⟨w.heap.size+2,j,none⟩) (by have:=sz.out;show w.heap.size+2<_;omega)).trans (TF.out j)
 have FB:Hid (Below w.heap.size w ((((w1.setCell ⟨w.heap.size+2,0,none⟩ (.slice q.sa q.sn q.sc)).setCell ⟨w.heap.size+2,1,none⟩ (.slice q.ra q.rn q.rc)).setCell ⟨w.heap.size+2,2,none⟩ (.slice q.wa q.wn q.tc)).setCell ⟨w.heap.size+2,3,none⟩ (.slice q.va q.vn q.vc))):=aI (aI (aI (aI (aC hU.out hb) (by simp) _) (by simp) _) (by simp) _) (by simp) _
 have FS:Hid (StaF w.heap.size (cA m l s) q ((((w1.setCell ⟨w.heap.size+2,0,none⟩ (.slice q.sa q.sn q.sc)).setCell ⟨w.heap.size+2,1,none⟩ (.slice q.ra q.rn q.rc)).setCell ⟨w.heap.size+2,2,none⟩ (.slice q.wa q.wn q.tc)).setCell ⟨w.heap.size+2,3,none⟩ (.slice q.va q.vn q.vc))):=((((hq.set _ 0 _ (by omega)).set _ 1 _ (by omega)).set _ 2 _ (by omega)).set _ 3 _ (by omega)).low (by omega)
 clear hq hb T0 TF
 go_wp2_with fail
 have x0:((((w1.setCell ⟨w.heap.size+2,0,none⟩ (.slice q.sa q.sn q.sc)).setCell ⟨w.heap.size+2,1,none⟩ (.slice q.ra q.rn q.rc)).setCell ⟨w.heap.size+2,2,none⟩ (.slice q.wa q.wn q.tc)).setCell ⟨w.heap.size+2,3,none⟩ (.slice q.va q.vn q.vc)).cell? ⟨w.heap.size+2,0,none⟩=some (.slice q.sa q.sn q.sc):=(aE (by decide) (aE (by decide) (aE (by decide) (aK t0))))
 have x1:((((w1.setCell ⟨w.heap.size+2,0,none⟩ (.slice q.sa q.sn q.sc)).setCell ⟨w.heap.size+2,1,none⟩ (.slice q.ra q.rn q.rc)).setCell ⟨w.heap.size+2,2,none⟩ (.slice q.wa q.wn q.tc)).setCell ⟨w.heap.size+2,3,none⟩ (.slice q.va q.vn q.vc)).cell? ⟨w.heap.size+2,1,none⟩=some (.slice q.ra q.rn q.rc):=(aE (by decide) (aE (by decide) (aK (aE (by decide) t1))))
 have x2:((((w1.setCell ⟨w.heap.size+2,0,none⟩ (.slice q.sa q.sn q.sc)).setCell ⟨w.heap.size+2,1,none⟩ (.slice q.ra q.rn q.rc)).setCell ⟨w.heap.size+2,2,none⟩ (.slice q.wa q.wn q.tc)).setCell ⟨w.heap.size+2,3,none⟩ (.slice q.va q.vn q.vc)).cell? ⟨w.heap.size+2,2,none⟩=some (.slice q.wa q.wn q.tc):=(aE (by decide) (aK (aE (by decide) (aE (by decide) t2))))
 have x3:((((w1.setCell ⟨w.heap.size+2,0,none⟩ (.slice q.sa q.sn q.sc)).setCell ⟨w.heap.size+2,1,none⟩ (.slice q.ra q.rn q.rc)).setCell ⟨w.heap.size+2,2,none⟩ (.slice q.wa q.wn q.tc)).setCell ⟨w.heap.size+2,3,none⟩ (.slice q.va q.vn q.vc)).cell? ⟨w.heap.size+2,3,none⟩=some (.slice q.va q.vn q.vc):=(aK (aE (by decide) (aE (by decide) (aE (by decide) t3))))
 generalize ((((w1.setCell ⟨w.heap.size+2,0,none⟩ (.slice q.sa q.sn q.sc)).setCell ⟨w.heap.size+2,1,none⟩ (.slice q.ra q.rn q.rc)).setCell ⟨w.heap.size+2,2,none⟩ (.slice q.wa q.wn q.tc)).setCell ⟨w.heap.size+2,3,none⟩ (.slice q.va q.vn q.vc))=WF at *
 refine bodyPost_ret (v:=.tuple #[.agg #[.slice q.sa q.sn q.sc,.slice q.ra q.rn q.rc,.slice q.wa q.wn q.tc,.slice q.va q.vn q.vc],.int .i64 (iI m l s)]) (by simp[results,Tryz.results40,go_sem,x0,x1,x2,x3]) rfl ⟨q,rfl,FS.out,FB.out⟩
end
end Go.Proofs.YtcgpkonfneofdaaGreatDoor
