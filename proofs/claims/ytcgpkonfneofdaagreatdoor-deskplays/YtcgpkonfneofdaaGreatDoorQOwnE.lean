/- Conditions: those that each theorem states. -/
import Derived.Test.YtcgpkonfneofdaaGreatDoorQHallK
set_option maxRecDepth 100000
set_option maxHeartbeats 8000000
namespace Go.Proofs.YtcgpkonfneofdaaGreatDoor
open Go.RowKit Go.Proofs.Tryz
open Go.Value renaming slice->J,int->Y,bool->bo,pointer->pd,agg->ag,tuple->tu,string->sg,iface->fc
open Go.IntKind renaming i64->I
open Go.Obj renaming cells->U
open Go.Ending renaming returned->rt,panicked->pg
open Option renaming some->M,none->Q
variable {lo c g n T k:Nat} {w':World} {a:Option Addr} {v:Value}
theorem xr {p:Prop} (h:p:=by
 have RB:=(aA br _).grown hgrow sm (fun j hj=>by have hj':M w.heap.size=M j:=hj;injection hj' with hj';exact Nat.le_of_eq hj');simp only[Nat.zero_add,List.nil_append]at hown';clear hgrow hnews hone;have HR:=pC hown';obtain⟨a',c',g,rfl,hn⟩:=HR;go_wp2;go_ret;exact⟨a',c',g,rfl,hn,RB⟩):p:=h
theorem yq {p:Prop} (h:p:=by
 have RB:=Hi ((HB1.out.alloc hsz _).grown hgrow (by simp;omega) (fun j hj=>(hr1.out.o.lt j hj).1));clear hown' hgrow hv3 hr1 HB1 HN1 hvl hBl hbw;go_wp2;go_roundw
 case rel=>exact⟨k+1,_,_,by omega,by go_num,R,RB⟩
 case measure=>simp[intOf];omega):p:=h
theorem zi {p:Prop} (h:p:=by
 have hkk:k=n:=om;subst hkk;have i1:¬(k:Int)<(k:Int):=om;obtain⟨a',c',g,hv,hor⟩:=hrow.out.fin;have HO:=Hi hor;subst hv;clear hor hrow;go_wp2;go_ret;exact⟨a',⟨c',rfl⟩,⟨g,B,HO.out⟩,hB.out⟩):p:=h
theorem U6 {p:Prop} (h:p:=by
 intro o j u hj
 have hlt:j<n:=by
  exact xg
 obtain⟨b,off,ha,hb,hc⟩:=hz j hlt;injection ha with ha
 subst ha;rw[bZ,ni _ _ _ hb,hc];simp[hlt]at hj;rw[hj]):p:=h
theorem UJ {p:Prop} (h:p:=by
 go_wp2;go_ret;exact⟨Q,0,0,rfl,⟨fun h=>absurd h (Nat.lt_irrefl _),fun _=>rfl,(fun ad e=>by cases e)⟩,br⟩):p:=h
theorem Vi {p:Prop} (h:p:=by
 intro u hu;obtain⟨k,hk,rfl⟩:=List.mem_map.1 hu;obtain⟨x,e⟩:=hG k (List.mem_range.1 hk);rw[e];rfl):p:=h
theorem Xj {p:Prop} (h:p:=by
 by_cases c:n=0
 ·exact c
 ·obtain⟨_,_,h,_⟩:=hz 0 om;cases h):p:=h
structure NewRow (lo:Nat) (w:World) (a:Option Addr) (c g n:Nat) (G:Nat->Value):Prop where
 e:0<n->a=M ⟨g,0,Q⟩/\lo<=g/\g<w.heap.size/\(∀k,k<n->w.cell? ⟨g,k,Q⟩=M (G k))/\∀k,w.frozen? ⟨g,k,Q⟩=false
 z:a=Q->c=0
 lo:∀ad,a=M ad->lo<=ad.block
theorem NewRow.below {w:World} {G:Nat->Value} (h:NewRow lo w a c g n G) (hb:Below w.heap.size w w'):NewRow lo w' a c g n G:=
 ⟨fun hn=>by
  obtain⟨h1,h2,h3,h4,h5⟩:=h.e hn;exact⟨h1,h2,nd h3 hb.size,fun k hk=>aB hb (h4 k hk),fun k=>(hb.frozen (p:=⟨g,k,Q⟩) h3).trans (h5 k)⟩,h.z,h.lo⟩
theorem pC {w:World} {C e:Nat} {G:Nat->Value} (h:w.ownsRow C e 1 v n ((List.range n).map G)):∃a' c' g,v=J a' n c'/\NewRow C w a' c' g n G:=by
 rcases h.2 with ⟨rfl,h0⟩ | ⟨g,cap,cur,rfl,hb,hg,_⟩
 ·exact⟨Q,0,0,by rw[h0],⟨(fun hn=>by omega),fun _=>rfl,(fun ad e=>by cases e)⟩⟩
 ·refine⟨M ⟨g,0,Q⟩,cap,g,rfl,⟨fun hn=>⟨rfl,hb,(Array.getElem?_eq_some_iff.1 hg).1,fun k hk=>?_,fun k=>h.frozenAt k⟩,(fun e=>by cases e),(fun ad e=>by injection e with e;subst e;exact hb)⟩⟩;have hc:=h.cells (g:=g) rfl k (G k) (by simp[hk]);rw[bZ,nw]at hc;exact hc
theorem oH (w:World) (v:Value) (ty s:Nat) (hs:s=w.heap.size):∀j u,[v][j]?=M u->(w.alloc (U #[v] ty)).cell? ((⟨s,0,Q⟩:Addr).add j)=M u:=by
 subst hs;exact Uz
theorem one_sl (a:Option Addr) (n c:Nat):∀u∈[J a n c],u.oneCell'=true:=by
 intro u hu;simp at hu;subst hu;rfl
def IsGR (w:World) (a:Option Addr) (n:Nat) (len:Nat->Nat) (G:Nat->Nat->Value):Prop:=
 ∀i,i<n->∃b off a' c',a=M ⟨b,off,Q⟩/\b<w.heap.size/\w.cell? ⟨b,off+i,Q⟩=J a' (len i) c'/\∀k,k<len i->∃b' off',a'=M ⟨b',off',Q⟩/\b'<w.heap.size/\w.cell? ⟨b',off'+k,Q⟩=M (G i k)
structure OR (lo hi:Nat) (w:World) (a:Option Addr) (n:Nat) (len:Nat->Nat) (G:Nat->Nat->Value) (g:Nat) (B:Nat->Nat):Prop where
 ad:0<n->a=M ⟨g,0,Q⟩/\lo<=g/\g<hi
 o:∀i,i<n->∃a' c,w.cell? ⟨g,i,Q⟩=J a' (len i) c/\(0<len i->a'=M ⟨B i,0,Q⟩)/\(a'=Q->c=0)/\∀ad,a'=M ad->lo<=ad.block
 b:∀i,i<n->0<len i->lo<=B i/\B i<hi/\B i≠g
 d:∀i j,i<n->j<n->i≠j->0<len i->0<len j->B i≠B j
 c:∀i k,i<n->k<len i->w.cell? ⟨B i,k,Q⟩=M (G i k)
 f:∀i k,i<n->0<len i->w.frozen? ⟨B i,k,Q⟩=false
structure CR (T C:Nat) (w:World) (v:Value) (k:Nat) (len:Nat->Nat) (G:Nat->Nat->Value) (L:List (Option Addr×Nat×Nat)) (B:Nat->Nat):Prop where
 n:L.length=k
 o:w.ownsRow C T 1 v L.length (L.map fun p=>J p.1 p.2.1 p.2.2)
 e:∀i,i<k->(L.getD i (Q,0,0)).2.1=len i/\(0<len i->(L.getD i (Q,0,0)).1=M ⟨B i,0,Q⟩)/\((L.getD i (Q,0,0)).1=Q->(L.getD i (Q,0,0)).2.2=0)/\∀ad,(L.getD i (Q,0,0)).1=M ad->C<=ad.block
 b:∀i,i<k->0<len i->C<=B i/\B i<w.heap.size/\v.ownBlock≠M (B i)
 d:∀i j,i<k->j<k->i≠j->0<len i->0<len j->B i≠B j
 c:∀i m,i<k->m<len i->w.cell? ⟨B i,m,Q⟩=M (G i m)
 f:∀i m,i<k->0<len i->w.frozen? ⟨B i,m,Q⟩=false
theorem CR.nil (T C:Nat) (w:World) (len:Nat->Nat) (G:Nat->Nat->Value) (B:Nat->Nat):CR T C w (J Q 0 0) 0 len G [] B:=
 ⟨rfl,n8 _ _ _ _,fun _ hi=>absurd hi (nl _),fun _ hi=>absurd hi (nl _),fun _ _ hi=>absurd hi (nl _),fun _ _ hi=>absurd hi (nl _),fun _ _ hi=>absurd hi (nl _)⟩
theorem CR.below {C:Nat} {w:World} {len:Nat->Nat} {G:Nat->Nat->Value} {L:List (Option Addr×Nat×Nat)} {B:Nat->Nat} (h:CR T C w v k len G L B) (hb:Below w.heap.size w w'):CR T C w' v k len G L B:=
 ⟨h.n,bY h.o hb,h.e,fun i hi hl=>⟨(h.b i hi hl).1,nd (h.b i hi hl).2.1 hb.size,(h.b i hi hl).2.2⟩,h.d,fun i m hi hm=>aB hb (h.c i m hi hm),fun i m hi hl=>(hb.frozen (p:=⟨B i,m,Q⟩) (h.b i hi hl).2.1).trans (h.f i m hi hl)⟩
theorem CR.push {C sz:Nat} {w:World} {v':Value} {len:Nat->Nat} {G:Nat->Nat->Value} {L:List (Option Addr×Nat×Nat)} {B:Nat->Nat} (h:CR T C w v k len G L B) (hk:L.length=k)
  (ho:w'.ownsRow C T 1 v' (L.length+1) ((L.map fun p=>J p.1 p.2.1 p.2.2)++[J a (len k) c])) (hg:w.grownBy w' v.ownBlock) (hv:v'.ownBlock=v.ownBlock∨v'.ownBlock=M w.heap.size)
  (hn:NewRow sz w a c g (len k) (G k)) (hC:C<=sz) (hvl:∀j,v.ownBlock=M j->j<sz) (hBl:∀i,i<k->0<len i->B i<sz) (B':Nat->Nat) (hB1:B' k=g) (hB2:∀i,i≠k->B' i=B i):CR T C w' v' (k+1) len G (L++[(a,len k,c)]) B':=by
 have far:∀b,_≠M b->b<w.heap.size->v'.ownBlock≠M b:=fun b h1 h2 e=>by
  rcases hv with x | x
  ·rw[x]at e;exact h1 e
  ·rw[x]at e;injection e with e;omega
 have gfar:0<len k->_≠M g:=fun hl e=>by have:=hvl g e;have:=(hn.e hl).2.1;omega
 refine⟨by rw[nj,lz,hk],by rw[nj,ny];exact ho,fun i hi=>?_,fun i hi hl=>?_,fun i j hi hj hne hli hlj=>?_,fun i m hi hm=>?_,fun i m hi hl=>?_⟩
 ·rcases vW L (a,len k,c) (Q,0,0) i (by rw[nj,lz];omega) with ⟨q1,q2⟩ | ⟨q1,q2⟩
  ·rw[q2,hB2 i om];exact h.e i om
  ·rw[q2];have e:i=k:=om;subst e;rw[hB1];exact⟨rfl,fun hl=>(hn.e hl).1,hn.z,fun ad e=>nh hC (hn.lo ad e)⟩
 ·by_cases e:i=k
  ·subst e;rw[hB1];obtain⟨_,n2,n3,_,_⟩:=hn.e hl;exact⟨by omega,nd n3 hg.size,far g (gfar hl) n3⟩
  ·rw[hB2 i e];obtain⟨b1,b2,b3⟩:=h.b i om hl;exact⟨b1,nd b2 hg.size,far _ b3 b2⟩
 ·by_cases e:i=k
  ·subst e;have e2:¬j=i:=fun q=>hne q.symm
   rw[hB1,hB2 j e2];have:=hBl j om hlj;have:=(hn.e hli).2.1;omega
  ·by_cases e2:j=k
   ·subst e2;rw[hB1,hB2 i e];have:=hBl i om hli;have:=(hn.e hlj).2.1;omega
   ·rw[hB2 i e,hB2 j e2];exact h.d i j om om hne hli hlj
 ·by_cases e:i=k
  ·subst e;rw[hB1];obtain⟨_,n2,n3,n4,_⟩:=hn.e om;exact hg.cell (n4 m hm) (fun q=>gfar om q.symm)
  ·rw[hB2 i e];exact hg.cell (h.c i m om hm) (fun q=>(h.b i om om).2.2 q.symm)
 ·by_cases e:i=k
  ·subst e;rw[hB1];obtain⟨_,n2,n3,_,n5⟩:=hn.e hl;exact(nv (a:=⟨g,m,Q⟩) (hg.block g n3 (fun q=>gfar hl q.symm))).trans (n5 m)
  ·rw[hB2 i e];obtain⟨b1,b2,b3⟩:=h.b i om hl;exact(nv (a:=⟨B i,m,Q⟩) (hg.block (B i) b2 (fun q=>b3 q.symm))).trans (h.f i m om hl)
theorem CR.fin {C:Nat} {w:World} {len:Nat->Nat} {G:Nat->Nat->Value} {L:List (Option Addr×Nat×Nat)} {B:Nat->Nat} (h:CR T C w v k len G L B):∃a c g,v=J a k c/\OR C w.heap.size w a k len G g B:=by
 have hk:=h.n;rcases h.o.2 with ⟨hv,h0⟩ | ⟨g,cap,cur,hv,hb,hg,_⟩
 ·have e:k=0:=om;subst e;exact⟨Q,0,0,hv,⟨fun h=>absurd h (Nat.lt_irrefl _),fun _ hi=>absurd hi (nl _),fun _ hi=>absurd hi (nl _),fun _ _ hi=>absurd hi (nl _),fun _ _ hi=>absurd hi (nl _),fun _ _ hi=>absurd hi (nl _)⟩⟩
 ·subst hv;refine⟨M ⟨g,0,Q⟩,cap,g,by rw[hk],⟨fun _=>⟨rfl,hb,(Array.getElem?_eq_some_iff.1 hg).1⟩,fun i hi=>?_,fun i hi hl=>?_,h.d,h.c,h.f⟩⟩
  ·obtain⟨e1,e2,e3,e4⟩:=h.e i hi
   have hc:=h.o.cells (g:=g) rfl i (J (L.getD i (Q,0,0)).1 (L.getD i (Q,0,0)).2.1 (L.getD i (Q,0,0)).2.2) (by
     have:i<L.length:=by omega
     simp[List.getD,this])
   rw[bZ,nw,e1]at hc;exact⟨_,_,hc,e2,e3,e4⟩
  ·obtain⟨b1,b2,b3⟩:=h.b i hi hl;exact⟨b1,b2,fun e=>b3 (by rw[e];rfl)⟩
theorem cloneB_new (n:Nat) (G:Nat->Value) (hG:∀k,k<n->∃u,G k=bo u) (a:Option Addr) (zc:Nat) (w:World) (h8:n<=8) (hz:∀k,k<n->∃b off,a=M ⟨b,off,Q⟩/\b<w.heap.size/\w.cell? ⟨b,off+k,Q⟩=M (G k)) :
  Calls prog 273 #[J a n zc] w fun e w'=>∃a' c' g,e=rt (J a' n c')/\NewRow w.heap.size w' a' c' g n G/\Below w.heap.size w w':=by
 have q24:∀(w:World) (a:Option Addr) (n c n' c':Nat),(binOp .eql 104 _ _).run _ w=.ok _ w:=fun w a n c n' c'=>Lib.run_eql_slice_nil w _ _ a n c n' c' underlying104
 obtain⟨i0,hi,hz0,hz1,hz2⟩:=info_parts info4
 cases a with
 | none=>
  have h0:n=0:=by
   exact Xj
  subst h0;clear hz h8 hG;go_enter func273,ntmps273;exact UJ
 | some ad=>
  have hnews:∀(o:Obj) j u,((List.range n).map G)[j]?=M u->(w.alloc o).cell? (ad.add j)=M u:=by
   exact U6
  have hone:∀u∈(List.range n).map G,u.oneCell'=true:=by
   exact Vi
  clear hz;go_enter func273,ntmps273
  go_wp2_with (first
   | (at_builtin;refine wpList_append_own _ rfl _ _ 104 rfl w.heap.size 4 i0 (bo false) 1 1 underlying104 hi hz0 hz1 hz2 rfl dc _ 0 [] rfl (lv w #[] 0 nr dc rfl) ad n zc ((List.range n).map G) rfl sm (hnews _) hone (by unfold maxLen;omega) om sm ?_;intro v' w1 hown' hgrow _)
   | go_in)
  exact xr
theorem nI (n:Nat) (G:Nat->Value) (hG:∀k,k<n->∃u,G k=Y I u) (a:Option Addr) (zc:Nat) (w:World) (h8:n<=8) (hz:∀k,k<n->∃b off,a=M ⟨b,off,Q⟩/\b<w.heap.size/\w.cell? ⟨b,off+k,Q⟩=M (G k)) :
  Calls prog 79 #[J a n zc] w fun e w'=>∃a' c' g,e=rt (J a' n c')/\NewRow w.heap.size w' a' c' g n G/\Below w.heap.size w w':=by
 have q24:∀(w:World) (a:Option Addr) (n c n' c':Nat),(binOp .eql 41 _ _).run _ w=.ok _ w:=fun w a n c n' c'=>Lib.run_eql_slice_nil w _ _ a n c n' c' underlying41
 obtain⟨i0,hi,hz0,hz1,hz2⟩:=info_parts info3
 cases a with
 | none=>
  have h0:n=0:=by
   exact Xj
  subst h0;clear hz h8 hG;go_enter func79,ntmps79;exact UJ
 | some ad=>
  have hnews:∀(o:Obj) j u,((List.range n).map G)[j]?=M u->(w.alloc o).cell? (ad.add j)=M u:=by
   exact U6
  have hone:∀u∈(List.range n).map G,u.oneCell'=true:=by
   exact Vi
  clear hz;go_enter func79,ntmps79
  go_wp2_with (first
   | (at_builtin;refine wpList_append_own _ rfl _ _ 41 rfl w.heap.size 3 i0 (Y I 0) 1 8 underlying41 hi hz0 hz1 hz2 rfl dc _ 0 [] rfl (lv w #[] 0 nr dc rfl) ad n zc ((List.range n).map G) rfl sm (hnews _) hone (by unfold maxLen;omega) om sm ?_;intro v' w1 hown' hgrow _)
   | go_in)
  exact xr
theorem info41:(prog.info? 41).map (fun i=>(i.zero,i.size,i.bytes))=M (M (J Q 0 0),1,24):=by kernel_rfl
theorem aBo (n:Nat) (len:Nat->Nat) (G:Nat->Nat->Value) (hG:∀i k,i<n->k<len i->∃u,G i k=bo u) (a:Option Addr) (zc:Nat) (w:World) (h8:n<=8) (hl:∀i,i<n->len i<=8) (hz:IsGR w a n len G) :
  Calls prog 240 #[J a n zc] w fun e w'=>∃a' c' g B,e=rt (J a' n c')/\OR w.heap.size w'.heap.size w' a' n len G g B/\Below w.heap.size w w':=by
 obtain⟨i0,hi,hz0,hz1,hz2⟩:=info_parts info104;have HZ:=Hi hz;have HL:=Hi hl;have HG:=Hi hG;clear hz hl hG;go_enter func240,ntmps240;go_wp2
 go_loopw [3,8] (fun v i wr=>∃(k:Nat) (L:List (Option Addr×Nat×Nat)) (B:Nat->Nat),k<=n/\i=Y I k/\Hid (CR 104 w.heap.size wr v k len G L B)/\Hid (Below w.heap.size w wr)) (fun _ i _=>n - (intOf i).toNat)
 case atStart=>exact⟨0,[],fun _=>0,nz,rfl,CR.nil _ _ _ _ _ _,br⟩
 case round=>
  obtain⟨k,L,B,hk,rfl,hrow,hB⟩:=hrel;by_cases hlt:k<n
  ·obtain⟨b,off,a1,c1,ea,hb,t0,hrd⟩:=HZ.out k hlt;subst ea;have d0:=aB hB.out t0;have i1:(k:Int)<(n:Int):=om;have i0':(0:Int)<=(k:Int):=om
   have CC:Hid (Calls prog 273 #[J a1 (len k) c1] wr fun e w'=>∃a' c' g,e=rt (J a' (len k) c')/\NewRow wr.heap.size w' a' c' g (len k) (G k)/\Below wr.heap.size wr w'):=cloneB_new (len k) (G k) (HG.out k · hlt) a1 c1 wr (HL.out k hlt) (fun j hj=>by
    obtain⟨b',off',e,h1,h2⟩:=hrd j hj;exact⟨b',off',e,nd h1 hB.out.size,aB hB.out h2⟩)
   have hLk:=hrow.out.n;generalize hln:len k=LK at *;have HLN:=Hi hln;clear hln t0 hrd
   go_wp2_with fail
   refine CC.out.mono ?_;rintro e w1 ⟨a',c',g,rfl,hnew,hb1⟩;have HN1:Hid (NewRow wr.heap.size w1 a' c' g (len k) (G k)):=by show NewRow _ _ _ _ _ _ _;rw[HLN.out];exact hnew
   have hr1:=Hi (hrow.out.below hb1);have HB1:=Hi (aC hB.out hb1);have hsz:=HB1.out.size;have hvl:=Hi (fun j e=>(hrow.out.o.lt j e).2);have hBl:=Hi (fun i hi h=>(hrow.out.b i hi h).2.1);have hbw:=Hi hB.out.size;clear hnew hb1 hrow hB CC d0
   go_wp2_with (first | (at_builtin;(refine wpList_append_own_at _ rfl _ _ 42 rfl w.heap.size 104 i0 (J Q 0 0) 1 24 underlying42 hi hz0 hz1 hz2 rfl dc _ _ _ rfl (hr1.out.o.alloc _) ⟨_,0,Q⟩ 1 1 [J a' LK c'] rfl rfl (oH w1 _ 104 _ sm) (one_sl _ _ _) (by unfold maxLen;omega) om (by simp;omega) ?_);intro v' w3 hown' hgrow _ hv3) | go_in)
   have R:=Hi (CR.push (hr1.out.below (aA br (U #[J a' LK c'] 104))) hLk (by rw[HLN.out];exact hown') hgrow hv3 (HN1.out.below (aA br _)) hbw.out hvl.out hBl.out (fun i=>if i=k then g else B i) (if_pos rfl) (fun i h=>if_neg h));exact yq
  ·exact zi
theorem copyI_new (n:Nat) (len:Nat->Nat) (G:Nat->Nat->Value) (hG:∀i k,i<n->k<len i->∃u,G i k=Y I u) (a:Option Addr) (zc:Nat) (w:World) (h8:n<=8) (hl:∀i,i<n->len i<=8) (hz:IsGR w a n len G) :
  Calls prog 241 #[J a n zc] w fun e w'=>∃a' c' g B,e=rt (J a' n c')/\OR w.heap.size w'.heap.size w' a' n len G g B/\Below w.heap.size w w':=by
 obtain⟨i0,hi,hz0,hz1,hz2⟩:=info_parts info41;have HZ:=Hi hz;have HL:=Hi hl;have HG:=Hi hG;clear hz hl hG;go_enter func241,ntmps241;go_wp2
 go_loopw [3,8] (fun v i wr=>∃(k:Nat) (L:List (Option Addr×Nat×Nat)) (B:Nat->Nat),k<=n/\i=Y I k/\Hid (CR 41 w.heap.size wr v k len G L B)/\Hid (Below w.heap.size w wr)) (fun _ i _=>n - (intOf i).toNat)
 case atStart=>exact⟨0,[],fun _=>0,nz,rfl,CR.nil _ _ _ _ _ _,br⟩
 case round=>
  obtain⟨k,L,B,hk,rfl,hrow,hB⟩:=hrel;by_cases hlt:k<n
  ·obtain⟨b,off,a1,c1,ea,hb,t0,hrd⟩:=HZ.out k hlt;subst ea;have d0:=aB hB.out t0;have i1:(k:Int)<(n:Int):=om;have i0':(0:Int)<=(k:Int):=om
   have CC:Hid (Calls prog 79 #[J a1 (len k) c1] wr fun e w'=>∃a' c' g,e=rt (J a' (len k) c')/\NewRow wr.heap.size w' a' c' g (len k) (G k)/\Below wr.heap.size wr w'):=nI (len k) (G k) (HG.out k · hlt) a1 c1 wr (HL.out k hlt) (fun j hj=>by
    obtain⟨b',off',e,h1,h2⟩:=hrd j hj;exact⟨b',off',e,nd h1 hB.out.size,aB hB.out h2⟩)
   have hLk:=hrow.out.n;generalize hln:len k=LK at *;have HLN:=Hi hln;clear hln t0 hrd
   go_wp2_with fail
   refine CC.out.mono ?_;rintro e w1 ⟨a',c',g,rfl,hnew,hb1⟩;have HN1:Hid (NewRow wr.heap.size w1 a' c' g (len k) (G k)):=by show NewRow _ _ _ _ _ _ _;rw[HLN.out];exact hnew
   have hr1:=Hi (hrow.out.below hb1);have HB1:=Hi (aC hB.out hb1);have hsz:=HB1.out.size;have hvl:=Hi (fun j e=>(hrow.out.o.lt j e).2);have hBl:=Hi (fun i hi h=>(hrow.out.b i hi h).2.1);have hbw:=Hi hB.out.size;clear hnew hb1 hrow hB CC d0
   go_wp2_with (first | (at_builtin;(refine wpList_append_own_at _ rfl _ _ 43 rfl w.heap.size 41 i0 (J Q 0 0) 1 24 underlying43 hi hz0 hz1 hz2 rfl dc _ _ _ rfl (hr1.out.o.alloc _) ⟨_,0,Q⟩ 1 1 [J a' LK c'] rfl rfl (oH w1 _ 41 _ sm) (one_sl _ _ _) (by unfold maxLen;omega) om (by simp;omega) ?_);intro v' w3 hown' hgrow _ hv3) | go_in)
   have R:=Hi (CR.push (hr1.out.below (aA br (U #[J a' LK c'] 41))) hLk (by rw[HLN.out];exact hown') hgrow hv3 (HN1.out.below (aA br _)) hbw.out hvl.out hBl.out (fun i=>if i=k then g else B i) (if_pos rfl) (fun i h=>if_neg h));exact yq
  ·exact zi
theorem uo {p:Prop} (h:p:=by
 match j,hj with
 | 0,_=>exact aF _ _ 45 _ 0 _ sm rfl
 | 1,_=>exact aF _ _ 45 _ 1 _ sm rfl
 | 2,_=>exact aF _ _ 45 _ 2 _ sm rfl
 | 3,_=>exact aF _ _ 45 _ 3 _ sm rfl):p:=h
theorem Vw {p:Prop} (h:p:=by
 subst hWe
 exact fun j hj=>by
  exact uo):p:=h
theorem VO {p:Prop} (h:p:=by
 exact⟨b',off',rfl,q2.2,q4 k hk⟩):p:=h
section
theorem OR.mono {hi lo' hi':Nat} {w:World} {len:Nat->Nat} {G:Nat->Nat->Value} {B:Nat->Nat} (h:OR lo hi w a n len G g B) (h1:lo'<=lo) (h2:hi<=hi'):OR lo' hi' w a n len G g B:=
 ⟨fun hn=>⟨(h.ad hn).1,nh h1 (h.ad hn).2.1,nd (h.ad hn).2.2 h2⟩,fun i hi=>by
  obtain⟨a',c,e1,e2,e3,e4⟩:=h.o i hi;exact⟨a',c,e1,e2,e3,fun ad e=>nh h1 (e4 ad e)⟩,fun i hi hl=>⟨nh h1 (h.b i hi hl).1,nd (h.b i hi hl).2.1 h2,(h.b i hi hl).2.2⟩,h.d,h.c,h.f⟩
theorem OR.keep {hi:Nat} {w:World} {len:Nat->Nat} {G:Nat->Nat->Value} {B:Nat->Nat} (h:OR lo hi w a n len G g B) (hb:∀b,lo<=b->b<hi->w'.heap[b]?=w.heap[b]?):OR lo hi w' a n len G g B:=
 ⟨h.ad,fun i hi=>by
  obtain⟨a',c,e1,e2,e3,e4⟩:=h.o i hi;obtain⟨_,a1,a2⟩:=h.ad (kg nz hi)
  exact⟨a',c,(nu (a:=⟨g,i,Q⟩) (hb g a1 a2)).trans e1,e2,e3,e4⟩,h.b,h.d,fun i k hi hk=>by
  obtain⟨b1,b2,_⟩:=h.b i hi (kg nz hk)
  exact(nu (a:=⟨B i,k,Q⟩) (hb (B i) b1 b2)).trans (h.c i k hi hk),fun i k hi hl=>by
  obtain⟨b1,b2,_⟩:=h.b i hi hl;exact(nv (a:=⟨B i,k,Q⟩) (hb (B i) b1 b2)).trans (h.f i k hi hl)⟩
theorem eB (w:World) (b j:Nat) (u:Value) (c:Nat) (hne:c≠b):(w.setCell ⟨b,j,Q⟩ u).heap[c]?=w.heap[c]?:=by
 by_cases hc:c<w.heap.size
 ·exact(aP w b j u).block c hc (fun e=>by injection e with e;exact hne e)
 ·rw[Array.getElem?_eq_none (by rw[n9];omega),Array.getElem?_eq_none om]
theorem OR.far {hi:Nat} {w:World} {len:Nat->Nat} {G:Nat->Nat->Value} {B:Nat->Nat} (h:OR lo hi w a n len G g B) (b j:Nat) (u:Value) (hb:b<lo∨hi<=b):OR lo hi (w.setCell ⟨b,j,Q⟩ u) a n len G g B:=
 h.keep fun c h1 h2=>eB w b j u c om
theorem OR.set {hi:Nat} {w:World} {len:Nat->Nat} {G G':Nat->Nat->Value} {B:Nat->Nat} (h:OR lo hi w a n len G g B) {n0 k0:Nat} (hn:n0<n) (hk:k0<len n0) (u:Value) (hG:∀i k,i<n->k<len i->G' i k=if i=n0/\k=k0 then u else G i k):OR lo hi (w.setCell ⟨B n0,k0,Q⟩ u) a n len G' g B:=by
 have hl:0<len n0:=om;obtain⟨b1,b2,b3⟩:=h.b n0 hn hl;refine⟨h.ad,fun i hi=>?_,h.b,h.d,fun i k hi hk'=>?_,fun i k hi hl'=>?_⟩
 ·obtain⟨a',c,e1,e2,e3,e4⟩:=h.o i hi;exact⟨a',c,by rw[nt _ _ _ _ (by simpa using b3)];exact e1,e2,e3,e4⟩
 ·rw[hG i k hi hk'];by_cases e:i=n0
  ·subst e;by_cases ek:k=k0
   ·subst ek;rw[if_pos ⟨rfl,rfl⟩];exact aK (h.c i k hi hk')
   ·rw[if_neg (fun q=>ek q.2)];exact aE ek (h.c i k hi hk')
  ·rw[if_neg (fun q=>e q.1),nt _ _ _ _ (by simpa using h.d n0 i hn hi (fun q=>e q.symm) hl om)];exact h.c i k hi hk'
 ·rw[World.frozen?_setCell];exact h.f i k hi hl'
theorem OR.congr {hi:Nat} {w:World} {len:Nat->Nat} {G G':Nat->Nat->Value} {B:Nat->Nat} (h:OR lo hi w a n len G g B) (hG:∀i k,i<n->k<len i->G' i k=G i k):OR lo hi w a n len G' g B:=
 ⟨h.ad,h.o,h.b,h.d,fun i k hi hk=>by rw[hG i k hi hk];exact h.c i k hi hk,h.f⟩
structure OwnSt (C:Nat) (w:World) (sa ra wa va:Option Addr) (sc:Nat) (l:List TxA) (sh:Nat) (S:SA) (g0 c1 c2 c3 hi gr gw gv:Nat) (Br Bw Bv:Nat->Nat):Prop where
 st:NewRow C w sa sc g0 8 (fun k=>Y I (S.st.getD k 0))
 h1:C<=c1/\g0<c1
 h2:c1<=c2
 h3:c2<=c3
 h4:c3<=hi
 h5:hi<=w.heap.size
 rd:OR c1 c2 w ra l.length (fun _=>sh) (fun i k=>bo (cR S.rd i k)) gr Br
 wr:OR c2 c3 w wa l.length (fun _=>sh) (fun i k=>bo (cR S.wr i k)) gw Bw
 vs:OR c3 hi w va l.length (fun i=>(gX l i).rs.length) (fun i k=>Y I ((S.vs.getD i []).getD k 0)) gv Bv
 f:Form sh l S
theorem NewRow.keep {w:World} {G:Nat->Value} (h:NewRow lo w a c g n G) (hb:w'.heap[g]?=w.heap[g]?) (hs:w.heap.size<=w'.heap.size):NewRow lo w' a c g n G:=
 ⟨fun hn=>by
  obtain⟨h1,h2,h3,h4,h5⟩:=h.e hn;exact⟨h1,h2,nd h3 hs,fun k hk=>(nu (a:=⟨g,k,Q⟩) hb).trans (h4 k hk),fun k=>(nv (a:=⟨g,k,Q⟩) hb).trans (h5 k)⟩,h.z,h.lo⟩
theorem OwnSt.keep {C:Nat} {w:World} {sa ra wa va:Option Addr} {sc:Nat} {l:List TxA} {sh:Nat} {S:SA} {g0 c1 c2 c3 hi gr gw gv:Nat} {Br Bw Bv:Nat->Nat} (h:OwnSt C w sa ra wa va sc l sh S g0 c1 c2 c3 hi gr gw gv Br Bw Bv) (hb:∀b,C<=b->b<w.heap.size->w'.heap[b]?=w.heap[b]?) (hs:w.heap.size<=w'.heap.size):OwnSt C w' sa ra wa va sc l sh S g0 c1 c2 c3 hi gr gw gv Br Bw Bv:=by
 have e:=h.st.e dc;have k1:=h.h1;have k2:=h.h2;have k3:=h.h3;have k4:=h.h4;have k5:=h.h5;exact⟨h.st.keep (hb g0 e.2.1 e.2.2.1) hs,k1,k2,k3,k4,by omega,h.rd.keep (fun b q1 q2=>hb b om om),h.wr.keep (fun b q1 q2=>hb b om om),h.vs.keep (fun b q1 q2=>hb b om om),h.f⟩
theorem OwnSt.below {C:Nat} {w:World} {sa ra wa va:Option Addr} {sc:Nat} {l:List TxA} {sh:Nat} {S:SA} {g0 c1 c2 c3 hi gr gw gv:Nat} {Br Bw Bv:Nat->Nat} (h:OwnSt C w sa ra wa va sc l sh S g0 c1 c2 c3 hi gr gw gv Br Bw Bv) (hb:Below w.heap.size w w'):OwnSt C w' sa ra wa va sc l sh S g0 c1 c2 c3 hi gr gw gv Br Bw Bv:=h.keep (fun b _ h2=>hb.block b h2) hb.size
theorem OwnSt.set {C:Nat} {w:World} {sa ra wa va:Option Addr} {sc:Nat} {l:List TxA} {sh:Nat} {S:SA} {g0 c1 c2 c3 hi gr gw gv:Nat} {Br Bw Bv:Nat->Nat} (h:OwnSt C w sa ra wa va sc l sh S g0 c1 c2 c3 hi gr gw gv Br Bw Bv) (b j:Nat) (u:Value) (hb:b<C):OwnSt C (w.setCell ⟨b,j,Q⟩ u) sa ra wa va sc l sh S g0 c1 c2 c3 hi gr gw gv Br Bw Bv:=h.keep (fun c h1 _=>eB w b j u c om) (by rw[n9];exact nr)
theorem OR.isBR {hi:Nat} {w:World} {sh:Nat} {F:Nat->Nat->Bool} {B:Nat->Nat} (h:OR lo hi w a n (fun _=>sh) (fun i k=>bo (F i k)) g B) (h0:0<sh) (hh:hi<=w.heap.size):IsBR 0 w a n sh F:=fun i hi=>by
 obtain⟨e1,e2,e3⟩:=h.ad om;obtain⟨a',c,o1,o2,_,_⟩:=h.o i hi;obtain⟨b1,b2,_⟩:=h.b i hi h0;rw[o2 h0]at o1;exact⟨g,0,B i,0,c,e1,⟨nz,by omega⟩,⟨nz,by omega⟩,by rw[nw];exact o1,fun k hk=>by rw[nw];exact h.c i k hi hk⟩
theorem OR.isIR {hi:Nat} {w:World} {l:List TxA} {V:List (List Int)} {B:Nat->Nat} (h:OR lo hi w a l.length (fun i=>(gX l i).rs.length) (fun i k=>Y I ((V.getD i []).getD k 0)) g B) (hv:∀i,i<l.length->(V.getD i []).length=(gX l i).rs.length) (hh:hi<=w.heap.size):IsIR 0 w a l V:=fun i hi=>by
 obtain⟨e1,e2,e3⟩:=h.ad om;obtain⟨a',c,o1,o2,o3,_⟩:=h.o i hi;refine⟨g,0,a',c,e1,⟨nz,by omega⟩,by rw[nw];exact o1,hv i hi,fun k hk=>?_,fun _ _=>nz,o3⟩;rw[hv i hi]at hk;obtain⟨b1,b2,_⟩:=h.b i hi om;exact⟨B i,0,o2 om,by omega,by rw[nw];exact h.c i k hi hk⟩
theorem OwnSt.ints {C:Nat} {w:World} {sa ra wa va:Option Addr} {sc:Nat} {l:List TxA} {sh:Nat} {S:SA} {g0 c1 c2 c3 hi gr gw gv:Nat} {Br Bw Bv:Nat->Nat} (h:OwnSt C w sa ra wa va sc l sh S g0 c1 c2 c3 hi gr gw gv Br Bw Bv):IsInts w sa S.st:=fun k hk=>by
 rw[h.f.st]at hk;obtain⟨e1,e2,e3,e4,_⟩:=h.st.e dc;exact⟨g0,0,e1,e3,by rw[nw];exact e4 k hk⟩
theorem OwnSt.sta {C:Nat} {w:World} {sa ra wa va:Option Addr} {sc:Nat} {l:List TxA} {sh:Nat} {S:SA} {g0 c1 c2 c3 hi gr gw gv:Nat} {Br Bw Bv:Nat->Nat} (h:OwnSt C w sa ra wa va sc l sh S g0 c1 c2 c3 hi gr gw gv Br Bw Bv) (h0:0<sh):Sta w sa ra wa va S:=by
 have k3:=h.h3;have k4:=h.h4;have k5:=h.h5;refine⟨h.ints,fun i hi=>?_,fun i hi=>?_,fun i hi=>?_⟩
 ·rw[h.f.rd]at hi;obtain⟨b,off,b',off',c',e,q1,q2,q3,q4⟩:=h.rd.isBR h0 om i hi;refine⟨b,off,M ⟨b',off',Q⟩,c',e,q1.2,by rw[h.f.rn i hi];exact q3,fun k hk=>?_,fun e=>by cases e⟩;rw[h.f.rn i hi]at hk;exact VO
 ·rw[h.f.wr]at hi;obtain⟨b,off,b',off',c',e,q1,q2,q3,q4⟩:=h.wr.isBR h0 om i hi;refine⟨b,off,M ⟨b',off',Q⟩,c',e,q1.2,by rw[h.f.wn i hi];exact q3,fun k hk=>?_,fun e=>by cases e⟩;rw[h.f.wn i hi]at hk;exact VO
 ·rw[h.f.vs]at hi;obtain⟨b,off,a',c',e,q1,q2,q3,q4,_,q5⟩:=h.vs.isIR h.f.vn om i hi;exact⟨b,off,a',c',e,q1.2,by rw[h.f.vn i hi];exact q2,q4,q5⟩
theorem OwnSt.low {C C':Nat} {w:World} {sa ra wa va:Option Addr} {sc:Nat} {l:List TxA} {sh:Nat} {S:SA} {g0 c1 c2 c3 hi gr gw gv:Nat} {Br Bw Bv:Nat->Nat} (h:OwnSt C w sa ra wa va sc l sh S g0 c1 c2 c3 hi gr gw gv Br Bw Bv) (hc:C'<=C):OwnSt C' w sa ra wa va sc l sh S g0 c1 c2 c3 hi gr gw gv Br Bw Bv:=
 ⟨⟨fun hn=>⟨(h.st.e hn).1,nh hc (h.st.e hn).2.1,(h.st.e hn).2.2⟩,h.st.z,fun ad e=>nh hc (h.st.lo ad e)⟩,⟨nh hc h.h1.1,h.h1.2⟩,h.h2,h.h3,h.h4,h.h5,h.rd,h.wr,h.vs,h.f⟩
variable (sa ra wa va:Option Addr) (sc rc tc vc:Nat) (l:List TxA) (sh:Nat) (S:SA)
theorem copyOf_own (w:World) (h0:0<sh) (h4:sh<=4) (h8:l.length<=8) (hr4:∀i,i<l.length->(gX l i).rs.length<=4) (hf:Form sh l S) (hs:Sta w sa ra wa va S) :
  Calls prog 196 #[ag #[J sa 8 sc,J ra l.length rc,J wa l.length tc,J va l.length vc]] w fun e w'=>∃sa' ra' wa' va' sc' rc' tc' vc' g0 c1 c2 c3 gr gw gv Br Bw Bv,e=rt (ag #[J sa' 8 sc',J ra' l.length rc',J wa' l.length tc',J va' l.length vc'])/\OwnSt w.heap.size w' sa' ra' wa' va' sc' l sh S g0 c1 c2 c3 w'.heap.size gr gw gv Br Bw Bv/\Below w.heap.size w w':=by
 obtain⟨W,hWe⟩:=nm (((w.alloc (U #[J sa 8 sc,J ra l.length rc,J wa l.length tc,J va l.length vc] 45)).alloc (U #[J Q 0 0,J Q 0 0,J Q 0 0,J Q 0 0] 45)));have hW:Hid (Below w.heap.size w W):=by subst hWe;exact aA (aA br _) _
 have s0:W.cell? ⟨w.heap.size,0,Q⟩=J sa 8 sc:=by subst hWe;exact aB (aA br _) (aF w _ 45 _ 0 _ rfl rfl)
 have s1:W.cell? ⟨w.heap.size,1,Q⟩=J ra l.length rc:=by subst hWe;exact aB (aA br _) (aF w _ 45 _ 1 _ rfl rfl)
 have s2:W.cell? ⟨w.heap.size,2,Q⟩=J wa l.length tc:=by subst hWe;exact aB (aA br _) (aF w _ 45 _ 2 _ rfl rfl)
 have s3:W.cell? ⟨w.heap.size,3,Q⟩=J va l.length vc:=by subst hWe;exact aB (aA br _) (aF w _ 45 _ 3 _ rfl rfl)
 have r0:∀j,j<4->W.cell? ⟨w.heap.size+1,j,Q⟩=J Q 0 0:=by
  exact Vw
 have rf:∀j,W.frozen? ⟨w.heap.size+1,j,Q⟩=false:=by subst hWe;exact fun j=>by simp
 have sz:Hid (W.heap.size=w.heap.size+2):=by subst hWe;show _=_;simp
 have HS:=Hi (hs.below hW.out);have R0:=Hi r0;have RF:=Hi rf;have HF:=Hi hf;have HR4:=Hi hr4;clear hs r0 rf hf hr4;have HWe:Hid (W=_):=hWe;clear hWe;go_enter func196,ntmps196
 go_upto_region 1 with fail
 rw[<-HWe.out];clear HWe
 have C1:Hid (∀w',Below W.heap.size W w'->Calls prog 79 #[J sa 8 sc] w' fun e w''=>∃a' c' g,e=rt (J a' 8 c')/\NewRow w'.heap.size w'' a' c' g 8 (fun k=>Y I (S.st.getD k 0))/\Below w'.heap.size w' w''):=fun w' hb=>nI 8 (fun k=>Y I (S.st.getD k 0)) (fun k _=>⟨_,rfl⟩) sa sc w' dc (fun k hk=>by
  obtain⟨b,off,e,q1,q2⟩:=(HS.out.below hb).st k (by rw[HF.out.st];exact hk);exact⟨b,off,e,q1,q2⟩)
 have C2:Hid (∀w',Below _ W w'->Calls _ 240 _ w' fun e w''=>∃a' c' g B,e=rt _/\OR _ _ w'' a' _ _ _ g B/\Below _ w' w''):=fun w' hb=>aBo l.length (fun _=>sh) (fun i k=>bo (cR S.rd i k)) (fun i k _ _=>⟨_,rfl⟩) ra rc w' h8 (fun i _=>by omega) (fun i hi=>by
  obtain⟨b,off,b',off',c',e,q1,q2,q3,q4⟩:=(HS.out.below hb).rd.rows HF.out.rd HF.out.rn h0 i hi;exact⟨b,off,M ⟨b',off',Q⟩,c',e,q1.2,q3,fun k hk=>⟨b',off',rfl,q2.2,q4 k hk⟩⟩)
 have C3:Hid (∀w',Below _ W w'->Calls _ 240 _ w' fun e w''=>∃a' c' g B,e=rt _/\OR _ _ w'' a' _ _ _ g B/\Below _ w' w''):=fun w' hb=>aBo l.length (fun _=>sh) (fun i k=>bo (cR S.wr i k)) (fun i k _ _=>⟨_,rfl⟩) wa tc w' h8 (fun i _=>by omega) (fun i hi=>by
  obtain⟨b,off,b',off',c',e,q1,q2,q3,q4⟩:=(HS.out.below hb).wr.rows HF.out.wr HF.out.wn h0 i hi;exact⟨b,off,M ⟨b',off',Q⟩,c',e,q1.2,q3,fun k hk=>⟨b',off',rfl,q2.2,q4 k hk⟩⟩)
 have C4:Hid (∀w',Below W.heap.size W w'->Calls prog 241 #[J va l.length vc] w' fun e w''=>∃a' c' g B,e=rt (J a' l.length c')/\OR w'.heap.size w''.heap.size w'' a' l.length (fun i=>(gX l i).rs.length) (fun i k=>Y I ((S.vs.getD i []).getD k 0)) g B/\Below w'.heap.size w' w''):=fun w' hb=>copyI_new l.length (fun i=>(gX l i).rs.length) (fun i k=>Y I ((S.vs.getD i []).getD k 0)) (fun i k _ _=>⟨_,rfl⟩) va vc w' h8 (fun i hi=>by have:=HR4.out i hi;omega) (fun i hi=>by
  obtain⟨b,off,a',c',e,q1,q2,q3,q4,_⟩:=(HS.out.below hb).vs.rows HF.out.vs HF.out.vn i hi
  exact⟨b,off,a',c',e,q1.2,q2,fun k hk=>by
   obtain⟨b',off',e',q5,q6⟩:=q4 k (by rw[q3];exact hk);exact⟨b',off',e',q5,q6⟩⟩)
 have KS:Hid (∀w',Below (w.heap.size+1) W w'->w'.cell? _=M _/\w'.cell? _=M _/\w'.cell? _=M _/\w'.cell? _=M _/\Hid (Below (_+1) W w')):=fun w' hb=>⟨(hb.cell (p:=⟨w.heap.size,0,Q⟩) sm).trans s0,(hb.cell (p:=⟨w.heap.size,1,Q⟩) sm).trans s1,(hb.cell (p:=⟨w.heap.size,2,Q⟩) sm).trans s2,(hb.cell (p:=⟨w.heap.size,3,Q⟩) sm).trans s3,hb⟩
 have UP:Hid (∀w',Below W.heap.size W w'->Below (w.heap.size+1) W w'):=fun w' hb=>hb.mono (by have:=sz.out;omega)
 go_region_held3 (fun w'=>w'.cell? ⟨w.heap.size,0,Q⟩=J sa 8 sc/\w'.cell? ⟨w.heap.size,1,Q⟩=J ra l.length rc/\w'.cell? ⟨w.heap.size,2,Q⟩=J wa l.length tc/\w'.cell? ⟨w.heap.size,3,Q⟩=J va l.length vc/\Hid (Below (w.heap.size+1) W w'))
  ((refine KS.out _ ?_;first | exact FINB.out | (refine UP.out _ ?_;first | exact aD br | exact D1.out | exact D2.out | exact D3.out | exact D4.out)))
  (first
   | (go_at_call 79;refine(C1.out _ (aD br)).mono ?_;rintro e wa1 ⟨a1,k1,g1,rfl,h1,hb1⟩;have D1:Hid (Below W.heap.size W wa1):=aC (aD br) hb1)
   | (go_at_call_of 240 (J ra l.length rc);refine(C2.out _ D1.out).mono ?_;rintro e wa2 ⟨a2,k2,g2,B2,rfl,h2,hb2⟩;have D2:Hid (Below W.heap.size W wa2):=aC D1.out hb2)
   | (go_at_call_of 240 (J wa l.length tc);refine(C3.out _ D2.out).mono ?_;rintro e wa3 ⟨a3,k3,g3,B3,rfl,h3,hb3⟩;have D3:Hid (Below W.heap.size W wa3):=aC D2.out hb3)
   | (go_at_call 241;refine(C4.out _ D3.out).mono ?_;rintro e wa4 ⟨a4,k4,g4,B4,rfl,h4',hb4⟩;have D4:Hid (Below W.heap.size W wa4):=aC D3.out hb4;have t0:=aB D4.out (R0.out 0 dc);have t1:=aB D4.out (R0.out 1 dc);have t2:=aB D4.out (R0.out 2 dc);have t3:=aB D4.out (R0.out 3 dc);have tf:=(fun j=>(D4.out.frozen (p:=⟨w.heap.size+1,j,Q⟩) (by have:=sz.out;simp;omega)).trans (RF.out j));have FINB:Hid (Below (w.heap.size+1) W ((((wa4.setCell ⟨w.heap.size+1,0,Q⟩ (J a1 8 k1)).setCell ⟨w.heap.size+1,1,Q⟩ (J a2 l.length k2)).setCell ⟨w.heap.size+1,2,Q⟩ (J a3 l.length k3)).setCell ⟨w.heap.size+1,3,Q⟩ (J a4 l.length k4))):=((((UP.out _ D4.out).setCell sm _).setCell sm _).setCell sm _).setCell sm _))
 all_goals (
  have OWN:Hid (OwnSt (w.heap.size+2) wa4 a1 a2 a3 a4 k1 l sh S g1 wa1.heap.size wa2.heap.size wa3.heap.size wa4.heap.size g2 g3 g4 B2 B3 B4):=⟨((h1.below hb2).below hb3).below hb4 |> fun q=>⟨fun hn=>⟨(q.e hn).1,by have k:W.heap.size<=g1:=(q.e hn).2.1;have:=sz.out;omega,(q.e hn).2.2⟩,q.z,fun ad e=>by have k:W.heap.size<=_:=q.lo ad e;have:=sz.out;omega⟩,⟨by have:=D1.out.size;have:=sz.out;omega,(h1.e dc).2.2.1⟩,hb2.size,hb3.size,hb4.size,nr,h2.keep (fun b _ q=>((aC hb3 hb4).block b q)),h3.keep (fun b _ q=>hb4.block b q),h4',HF.out⟩;have u0:((((wa4.setCell _ (J a1 8 k1)).setCell ⟨_+1,1,Q⟩ (J a2 l.length k2)).setCell ⟨_+1,2,Q⟩ (J a3 l.length k3)).setCell ⟨_+1,3,Q⟩ (J a4 l.length k4)).cell? _=M _:=aE dc (aE dc (aE dc (aK t0)));have u1:((((wa4.setCell ⟨_+1,0,Q⟩ (J a1 8 k1)).setCell _ _).setCell ⟨_+1,2,Q⟩ (J a3 l.length k3)).setCell ⟨_+1,3,Q⟩ (J a4 l.length k4)).cell? _=J a2 l.length k2:=aE dc (aE dc (aK (aE dc t1)));have u2:((((wa4.setCell ⟨_+1,0,Q⟩ (J a1 8 k1)).setCell ⟨_+1,1,Q⟩ (J a2 l.length k2)).setCell _ (J a3 l.length k3)).setCell ⟨_+1,3,Q⟩ (J a4 l.length k4)).cell? _=M _:=aE dc (aK (aE dc (aE dc t2)));have u3:((((wa4.setCell ⟨_+1,0,Q⟩ (J a1 8 k1)).setCell ⟨_+1,1,Q⟩ (J a2 l.length k2)).setCell ⟨_+1,2,Q⟩ (J a3 l.length k3)).setCell _ _).cell? _=J a4 l.length k4:=aK (aE dc (aE dc (aE dc t3)));have FO:Hid (OwnSt (w.heap.size+2) ((((wa4.setCell ⟨w.heap.size+1,0,Q⟩ (J a1 8 k1)).setCell ⟨w.heap.size+1,1,Q⟩ (J a2 l.length k2)).setCell ⟨w.heap.size+1,2,Q⟩ (J a3 l.length k3)).setCell ⟨w.heap.size+1,3,Q⟩ (J a4 l.length k4)) a1 a2 a3 a4 k1 l sh S g1 wa1.heap.size wa2.heap.size wa3.heap.size wa4.heap.size g2 g3 g4 B2 B3 B4):=(((OWN.out.set _ 0 _ om).set _ 1 _ om).set _ 2 _ om).set _ 3 _ om;have FB:Hid (Below w.heap.size w ((((wa4.setCell ⟨w.heap.size+1,0,Q⟩ (J a1 8 k1)).setCell ⟨w.heap.size+1,1,Q⟩ (J a2 l.length k2)).setCell ⟨w.heap.size+1,2,Q⟩ (J a3 l.length k3)).setCell ⟨w.heap.size+1,3,Q⟩ (J a4 l.length k4))):=aG (aG (aG (aG (aC hW.out D4.out) sm _) sm _) sm _) sm _;have SZ:Hid (((((wa4.setCell ⟨w.heap.size+1,0,Q⟩ (J a1 8 k1)).setCell ⟨w.heap.size+1,1,Q⟩ (J a2 l.length k2)).setCell ⟨w.heap.size+1,2,Q⟩ (J a3 l.length k3)).setCell ⟨w.heap.size+1,3,Q⟩ (J a4 l.length k4)).heap.size=wa4.heap.size):=by show _=_;simp
  clear h1 h2 h3 h4' hb1 hb2 hb3 hb4 D1 D2 D3 D4 OWN t0 t1 t2 t3 tf FINB KS UP C1 C2 C3 C4;generalize ((((wa4.setCell ⟨w.heap.size+1,0,Q⟩ (J a1 8 k1)).setCell ⟨w.heap.size+1,1,Q⟩ (J a2 l.length k2)).setCell ⟨w.heap.size+1,2,Q⟩ (J a3 l.length k3)).setCell ⟨w.heap.size+1,3,Q⟩ (J a4 l.length k4))=WF at *
  go_wp2_with fail
  refine bodyPost_ret (v:=ag #[J a1 8 k1,J a2 l.length k2,J a3 l.length k3,J a4 l.length k4]) (by simp[results,results196,go_sem,u0,u1,u2,u3]) rfl ⟨a1,a2,a3,a4,k1,k2,k3,k4,g1,wa1.heap.size,wa2.heap.size,wa3.heap.size,g2,g3,g4,B2,B3,B4,rfl,?_,FB.out⟩;rw[SZ.out];exact FO.out.low om)
end
theorem UH {p:Prop} (h:p:=by
 by_cases e:i=n/\j=k
 ·rw[if_pos ⟨e.1.symm,e.2.symm⟩,if_pos e]
 ·rw[if_neg (fun q=>e ⟨q.1.symm,q.2.symm⟩),if_neg e]):p:=h
theorem oI (sh k:Nat) (s:List Int):∀(rs vs:List Int) (i j:Nat),vs.length=rs.length->j<rs.length->(fG sh k s (rs.take i) vs).getD j 0=if j<i/\(rs.getD j 0).toNat%sh=k then uP s (rs.getD j 0) else vs.getD j 0
 | [],_,_,j,_,hj=>absurd hj (nl _)
 | r::rs,[],i,j,hl,_=>by simp at hl
 | r::rs,v::vs,0,j,_,_=>by simp[fG]
 | r::rs,v::vs,i+1,0,_,_=>by simp[fG]
 | r::rs,v::vs,i+1,j+1,hl,hj=>by
  have:=oI sh k s rs vs i j (by simpa using hl) (by simpa using hj);simp only[List.take_succ_cons,fG,List.getD_cons_succ,this,Nat.add_lt_add_iff_right]
theorem qI (sh k:Nat):∀(ks s vs:List Int) (i:Nat),i<ks.length->i<vs.length->cE sh k s (ks.take (i+1)) (vs.take (i+1))=if (ks.getD i 0).toNat%sh=k then (cE sh k s (ks.take i) (vs.take i)).set (ks.getD i 0).toNat (vs.getD i 0) else cE sh k s (ks.take i) (vs.take i)
 | a::ks,s,v::vs,0,_,_=>by simp[cE]
 | a::ks,s,v::vs,i+1,h,h'=>by
  simp only[List.take_succ_cons,cE,List.getD_cons_succ];exact qI sh k ks _ vs i (by simpa using h) (by simpa using h')
 | [],_,_,_,h,_=>absurd h (nl _)
 | _::_,_,[],_,_,h=>absurd h (nl _)
theorem tJ (sh k:Nat):∀(ks s vs:List Int),vs.length<=ks.length->cE sh k s (ks.take vs.length) vs=cE sh k s ks vs
 | [],s,vs,_=>by simp
 | a::ks,s,[],_=>by simp[cE]
 | a::ks,s,v::vs,h=>by
  simp only[List.length_cons,List.take_succ_cons,cE];exact tJ sh k ks _ vs (by simpa using h)
theorem OwnSt.setRd {C:Nat} {w:World} {sa ra wa va:Option Addr} {sc:Nat} {l:List TxA} {sh:Nat} {S:SA} {g0 c1 c2 c3 hi gr gw gv:Nat} {Br Bw Bv:Nat->Nat} (h:OwnSt C w sa ra wa va sc l sh S g0 c1 c2 c3 hi gr gw gv Br Bw Bv) (hn:n<l.length) (hk:k<sh):OwnSt C (w.setCell ⟨Br n,k,Q⟩ (bo true)) sa ra wa va sc l sh {S with rd:=eM S.rd n k} g0 c1 c2 c3 hi gr gw gv Br Bw Bv:=by
 obtain⟨b1,b2,_⟩:=h.rd.b n hn (kg nz hk);have k1:=h.h1;have k2:=h.h2;have k3:=h.h3;have k4:=h.h4;refine⟨h.st.keep (eB _ _ _ _ _ om) (by rw[n9];exact nr),k1,k2,k3,k4,by rw[n9];exact h.h5,h.rd.set hn hk (bo true) (fun i j hi hj=>?_),h.wr.far _ _ _ om,h.vs.far _ _ _ om,?_⟩
 ·rw[tA (by rw[h.f.rd];exact hn) (by rw[h.f.rn n hn];exact hk)];exact UH
 ·exact⟨h.f.st,by rw[rG];exact h.f.rd,h.f.wr,h.f.vs,fun i hi=>by rw[rF];exact h.f.rn i hi,h.f.wn,h.f.vn⟩
theorem OwnSt.setWr {C:Nat} {w:World} {sa ra wa va:Option Addr} {sc:Nat} {l:List TxA} {sh:Nat} {S:SA} {g0 c1 c2 c3 hi gr gw gv:Nat} {Br Bw Bv:Nat->Nat} (h:OwnSt C w sa ra wa va sc l sh S g0 c1 c2 c3 hi gr gw gv Br Bw Bv) (hn:n<l.length) (hk:k<sh):OwnSt C (w.setCell ⟨Bw n,k,Q⟩ (bo true)) sa ra wa va sc l sh {S with wr:=eM S.wr n k} g0 c1 c2 c3 hi gr gw gv Br Bw Bv:=by
 obtain⟨b1,b2,_⟩:=h.wr.b n hn (kg nz hk);have k1:=h.h1;have k2:=h.h2;have k3:=h.h3;have k4:=h.h4;refine⟨h.st.keep (eB _ _ _ _ _ om) (by rw[n9];exact nr),k1,k2,k3,k4,by rw[n9];exact h.h5,h.rd.far _ _ _ om,h.wr.set hn hk (bo true) (fun i j hi hj=>?_),h.vs.far _ _ _ om,?_⟩
 ·rw[tA (by rw[h.f.wr];exact hn) (by rw[h.f.wn n hn];exact hk)];exact UH
 ·exact⟨h.f.st,h.f.rd,by rw[rG];exact h.f.wr,h.f.vs,h.f.rn,fun i hi=>by rw[rF];exact h.f.wn i hi,h.f.vn⟩
theorem OwnSt.setV {C:Nat} {w:World} {sa ra wa va:Option Addr} {sc:Nat} {l:List TxA} {sh:Nat} {S:SA} {g0 c1 c2 c3 hi gr gw gv:Nat} {Br Bw Bv:Nat->Nat} (h:OwnSt C w sa ra wa va sc l sh S g0 c1 c2 c3 hi gr gw gv Br Bw Bv) {i:Nat} (hn:n<l.length) (hi':i<(gX l n).rs.length) (u:Int) (V:List (List Int)) (hV:∀a j,a<l.length->j<(gX l a).rs.length->(V.getD a []).getD j 0=if a=n/\j=i then u else (S.vs.getD a []).getD j 0) (hl:V.length=l.length) (hr:∀a,a<l.length->(V.getD a []).length=(gX l a).rs.length):OwnSt C (w.setCell ⟨Bv n,i,Q⟩ (Y I u)) sa ra wa va sc l sh {S with vs:=V} g0 c1 c2 c3 hi gr gw gv Br Bw Bv:=by
 obtain⟨b1,b2,_⟩:=h.vs.b n hn (kg nz hi');have k1:=h.h1;have k2:=h.h2;have k3:=h.h3;have k4:=h.h4;refine⟨h.st.keep (eB _ _ _ _ _ om) (by rw[n9];exact nr),k1,k2,k3,k4,by rw[n9];exact h.h5,h.rd.far _ _ _ om,h.wr.far _ _ _ om,h.vs.set hn hi' (Y I u) (fun a j ha hj=>?_),?_⟩
 ·show Y I ((V.getD a []).getD j 0)=_;rw[hV a j ha hj];by_cases e:a=n/\j=i
  ·rw[if_pos e,if_pos e]
  ·rw[if_neg e,if_neg e]
 ·exact⟨h.f.st,h.f.rd,h.f.wr,hl,h.f.rn,h.f.wn,hr⟩
theorem OwnSt.asV {C:Nat} {w:World} {sa ra wa va:Option Addr} {sc:Nat} {l:List TxA} {sh:Nat} {S:SA} {g0 c1 c2 c3 hi gr gw gv:Nat} {Br Bw Bv:Nat->Nat} (h:OwnSt C w sa ra wa va sc l sh S g0 c1 c2 c3 hi gr gw gv Br Bw Bv) (V:List (List Int)) (hV:∀a j,a<l.length->j<(gX l a).rs.length->(V.getD a []).getD j 0=(S.vs.getD a []).getD j 0) (hl:V.length=l.length) (hr:∀a,a<l.length->(V.getD a []).length=(gX l a).rs.length):OwnSt C w sa ra wa va sc l sh {S with vs:=V} g0 c1 c2 c3 hi gr gw gv Br Bw Bv:=
 ⟨h.st,h.h1,h.h2,h.h3,h.h4,h.h5,h.rd,h.wr,h.vs.congr (fun a j ha hj=>by show Y I ((V.getD a []).getD j 0)=_;rw[hV a j ha hj]),⟨h.f.st,h.f.rd,h.f.wr,hl,h.f.rn,h.f.wn,hr⟩⟩
theorem OwnSt.setS {C:Nat} {w:World} {sa ra wa va:Option Addr} {sc:Nat} {l:List TxA} {sh:Nat} {S:SA} {g0 c1 c2 c3 hi gr gw gv:Nat} {Br Bw Bv:Nat->Nat} (h:OwnSt C w sa ra wa va sc l sh S g0 c1 c2 c3 hi gr gw gv Br Bw Bv) (hc:c<8) (u:Int):OwnSt C (w.setCell ⟨g0,c,Q⟩ (Y I u)) sa ra wa va sc l sh {S with st:=S.st.set c u} g0 c1 c2 c3 hi gr gw gv Br Bw Bv:=by
 obtain⟨e1,e2,e3,e4,e5⟩:=h.st.e dc;have k1:=h.h1;have k2:=h.h2;have k3:=h.h3;have k4:=h.h4;refine⟨⟨fun _=>⟨e1,e2,by rw[n9];exact e3,fun k hk=>?_,fun k=>by rw[World.frozen?_setCell];exact e5 k⟩,h.st.z,h.st.lo⟩,k1,k2,k3,k4,by rw[n9];exact h.h5,h.rd.far _ _ _ om,h.wr.far _ _ _ om,h.vs.far _ _ _ om,⟨by rw[we];exact h.f.st,h.f.rd,h.f.wr,h.f.vs,h.f.rn,h.f.wn,h.f.vn⟩⟩;show _=M (Y I ((S.st.set c u).getD k 0));by_cases e:k=c
 ·subst e;rw[eE _ _ _ _ _ (by rw[h.f.st];exact hk),if_pos rfl];exact aK (e4 k hk)
 ·rw[eE _ _ _ _ _ (by rw[h.f.st];exact hc),if_neg (fun q=>e q.symm)];exact aE e (e4 k hk)
structure DoAt (w0 w:World) (C h p:Nat) (la:Option Addr) (lc rc tc vc:Nat) (sa ra wa va:Option Addr) (sc:Nat) (l:List TxA) (sh:Nat) (S:SA) (g0 c1 c2 c3 hi gr gw gv:Nat) (Br Bw Bv:Nat->Nat):Prop where
 h0:w.cell? ⟨h,0,Q⟩=pd (M ⟨p,0,Q⟩)
 h1:w.cell? ⟨h,1,Q⟩=J sa 8 sc
 h2:w.cell? ⟨h,2,Q⟩=J ra l.length rc
 h3:w.cell? ⟨h,3,Q⟩=J wa l.length tc
 h4:w.cell? ⟨h,4,Q⟩=J va l.length vc
 p0:w.cell? ⟨p,0,Q⟩=Y I sh
 p1:w.cell? ⟨p,1,Q⟩=J la l.length lc
 hc:h<C
 pc:p<C
 tx:IsTxs w0 la l
 bl:Below w0.heap.size w0 w
 cw:w0.heap.size<=C
 own:OwnSt C w sa ra wa va sc l sh S g0 c1 c2 c3 hi gr gw gv Br Bw Bv
 s0:0<sh
 s4:sh<=4
 l8:l.length<=8
 ck:eN l=0
theorem DoAt.to {w0 w:World} {C h p:Nat} {la:Option Addr} {lc rc tc vc:Nat} {sa ra wa va:Option Addr} {sc:Nat} {l:List TxA} {sh:Nat} {S:SA} {g0 c1 c2 c3 hi gr gw gv:Nat} {Br Bw Bv:Nat->Nat} {S':SA} (D:DoAt w0 w C h p la lc rc tc vc sa ra wa va sc l sh S g0 c1 c2 c3 hi gr gw gv Br Bw Bv) (hb:Below C w w') (ho:OwnSt C w' sa ra wa va sc l sh S' g0 c1 c2 c3 hi gr gw gv Br Bw Bv):DoAt w0 w' C h p la lc rc tc vc sa ra wa va sc l sh S' g0 c1 c2 c3 hi gr gw gv Br Bw Bv:=by
 have q:=D.hc;have q':=D.pc;exact⟨(hb.cell (p:=⟨h,0,Q⟩) q).trans D.h0,(hb.cell (p:=⟨h,1,Q⟩) q).trans D.h1,(hb.cell (p:=⟨h,2,Q⟩) q).trans D.h2,(hb.cell (p:=⟨h,3,Q⟩) q).trans D.h3,(hb.cell (p:=⟨h,4,Q⟩) q).trans D.h4,(hb.cell (p:=⟨p,0,Q⟩) q').trans D.p0,(hb.cell (p:=⟨p,1,Q⟩) q').trans D.p1,q,q',D.tx,D.bl.trans (hb.mono D.cw),D.cw,ho,D.s0,D.s4,D.l8,D.ck⟩
theorem DoAt.below {w0 w:World} {C h p:Nat} {la:Option Addr} {lc rc tc vc:Nat} {sa ra wa va:Option Addr} {sc:Nat} {l:List TxA} {sh:Nat} {S:SA} {g0 c1 c2 c3 hi gr gw gv:Nat} {Br Bw Bv:Nat->Nat} (D:DoAt w0 w C h p la lc rc tc vc sa ra wa va sc l sh S g0 c1 c2 c3 hi gr gw gv Br Bw Bv) (hb:Below w.heap.size w w'):DoAt w0 w' C h p la lc rc tc vc sa ra wa va sc l sh S g0 c1 c2 c3 hi gr gw gv Br Bw Bv:=by
 have e:=D.own.h1;have e5:=D.own.h5;have e2:=D.own.h2;have e3:=D.own.h3;have e4:=D.own.h4;exact D.to (hb.mono om) (D.own.below hb)
theorem vq {p:Prop} (h:p:=by
 rw[eE _ _ _ _ _ (by rw[HF.out.vs];exact hn),eE _ _ _ _ _ (by rw[HF.out.vs];exact hn)];by_cases e:n=a
 ·subst e;rw[if_pos rfl,if_pos rfl,oI _ _ _ _ _ _ _ (by rw[HVL.out,hN]) hm,oI _ _ _ _ _ _ _ (by rw[HVL.out,hN]) hm];by_cases em:m=j
  ·subst em;simp only[HC.out,Int.toNat_natCast,Nat.lt_succ_self,true_and,Nat.lt_irrefl,false_and,if_false,and_true,beq_iff_eq];rfl
  ·have e1:(m<j+1)=(m<j):=by simp;omega
   simp only[e1,em,and_false,if_false]
 ·rw[if_neg e,if_neg e,if_neg (fun q=>e q.2.1.symm)]):p:=h
theorem xk {p:Prop} (h:p:=by
 have e:S.vs.set n (fG sh k S.st ((gX l n).rs.take 0) (S.vs.getD n []))=S.vs:=by
  show S.vs.set n (fG sh k S.st [] (S.vs.getD n []))=S.vs;have:fG sh k S.st [] (S.vs.getD n [])=S.vs.getD n []:=by cases S.vs.getD n [] <;> rfl
  rw[this];have hnv:n<S.vs.length:=by rw[HF.out.vs];exact hn
  rw[li,wj hnv];simp
 rw[e];exact D1.out):p:=h
theorem UC {p:Prop} (h:p:=by
 rw[eE _ _ _ _ _ (by rw[HF.out.vs];exact hn)];by_cases e:n=a
 ·subst e;rw[if_pos rfl,hV,hN]
 ·rw[if_neg e];exact HF.out.vn a ha):p:=h
theorem X4 {p:Prop} (h:p:=by
 rw[li,wj hi];exact ww hi):p:=h
section
theorem DoAt.reads {w0 w:World} {C h p:Nat} {la:Option Addr} {lc rc tc vc:Nat} {sa ra wa va:Option Addr} {sc:Nat} {l:List TxA} {sh:Nat} {S:SA} {g0 c1 c2 c3 hi gr gw gv:Nat} {Br Bw Bv:Nat->Nat} (D:DoAt w0 w C h p la lc rc tc vc sa ra wa va sc l sh S g0 c1 c2 c3 hi gr gw gv Br Bw Bv) (hn:n<l.length):∃b off,la=M ⟨b,off,Q⟩/\w.cell? ⟨b,off+n*3,Q⟩=J (gX l n).ra (gX l n).rs.length (gX l n).rc/\w.cell? ⟨b,off+n*3+1,Q⟩=J (gX l n).ga (gX l n).gs.length (gX l n).gc/\w.cell? ⟨b,off+n*3+2,Q⟩=J (gX l n).sa (gX l n).ss.length (gX l n).sc/\IsTx w (gX l n).ra (gX l n).ga (gX l n).sa (gX l n).rs (gX l n).gs (gX l n).ss:=by
 obtain⟨b,off,e,_,c0,c1,c2,hx⟩:=(D.tx.below D.bl) n hn;exact⟨b,off,e,c0,c1,c2,hx.t⟩
theorem DoAt.good {w0 w:World} {C h p:Nat} {la:Option Addr} {lc rc tc vc:Nat} {sa ra wa va:Option Addr} {sc:Nat} {l:List TxA} {sh:Nat} {S:SA} {g0 c1 c2 c3 hi gr gw gv:Nat} {Br Bw Bv:Nat->Nat} (D:DoAt w0 w C h p la lc rc tc vc sa ra wa va sc l sh S g0 c1 c2 c3 hi gr gw gv Br Bw Bv) (hn:n<l.length):Good (gX l n):=lR (eG D.ck n hn)
theorem DoAt.cs {w0 w:World} {C h p:Nat} {la:Option Addr} {lc rc tc vc:Nat} {sa ra wa va:Option Addr} {sc:Nat} {l:List TxA} {sh:Nat} {S:SA} {g0 c1 c2 c3 hi gr gw gv:Nat} {Br Bw Bv:Nat->Nat} (D:DoAt w0 w C h p la lc rc tc vc sa ra wa va sc l sh S g0 c1 c2 c3 hi gr gw gv Br Bw Bv):C<=w.heap.size:=by
 have e:=D.own.h1;have e5:=D.own.h5;have e2:=D.own.h2;have e3:=D.own.h3;have e4:=D.own.h4;omega
variable {w0 w:World} {C h p:Nat} {la:Option Addr} {lc rc tc vc:Nat} {sa ra wa va:Option Addr} {sc:Nat} {l:List TxA} {sh:Nat} {S:SA} {g0 c1 c2 c3 hi gr gw gv:Nat} {Br Bw Bv:Nat->Nat}
theorem read_at (D:DoAt w0 w C h p la lc rc tc vc sa ra wa va sc l sh S g0 c1 c2 c3 hi gr gw gv Br Bw Bv) (hn:n<l.length) (hk:k<sh) :
  Calls prog 197 #[pd (M ⟨h,0,Q⟩),Y I n,Y I k] w fun e w'=>e=rt (tu #[])/\DoAt w0 w' C h p la lc rc tc vc sa ra wa va sc l sh (gK sh l S n k) g0 c1 c2 c3 hi gr gw gv Br Bw Bv/\Below C w w':=by
 have h1:=D.own.h1;have hl8:=D.l8;have hs4:=D.s4;have hs0:=D.s0;have W1O:=D.own.setRd hn hk;have W1B:Below C w (w.setCell ⟨Br n,k,Q⟩ (bo true)):=br.setCell (by obtain⟨b1,_⟩:=D.own.rd.b n hn hs0;show C<=Br n;omega) _;have D1:=Hi (D.to W1B W1O);have B1:=Hi W1B;have HG:=Hi (D.good hn);obtain⟨era,_,_⟩:=D.own.rd.ad om;obtain⟨a',c',r0,r1,_,_⟩:=D.own.rd.o n hn;have r1:=r1 hs0;subst r1;have r2:=D.own.rd.c n k hn hk;have r3:=D.own.rd.f n k hn hs0;have x0:=D.h0;have x2:=D.h2;rw[era]at x2;have HF:=Hi D.own.f;clear W1B W1O D h1 era;go_enter func197,ntmps197
 go_upto_region 1 with fail
 clear x0 x2 r0 r2 r3;generalize (w.setCell ⟨Br n,k,Q⟩ (bo true))=W at *;obtain⟨b,off,ela,q0,_,_,hx⟩:=D1.out.reads hn;have x0:=D1.out.h0;have x1:=D1.out.p1;rw[ela]at x1;have hl4:=hx.lr;unfold maxLen at hl4;clear hx;have HVL:=Hi (HF.out.vn n hn)
 have DS:Hid (DoAt w0 W C h p la lc rc tc vc sa ra wa va sc l sh {S with rd:=eM S.rd n k,vs:=S.vs.set n (fG sh k S.st ((gX l n).rs.take 0) (S.vs.getD n []))} g0 c1 c2 c3 hi gr gw gv Br Bw Bv):=by
  exact xk
 have FIN:Hid ((gX l n).rs.take (gX l n).rs.length=(gX l n).rs):=ld
 have HRL:Hid (∀i,i<(gX l n).rs.length->(gX l n).rs.getD i 0∈(gX l n).rs):=fun i hi=>by
  exact X4
 obtain⟨xa,exa⟩:∃xa,(gX l n).ra=xa:=⟨_,rfl⟩;rw[exa]at q0;have EXA:=Hi exa;clear exa;generalize hN:(gX l n).rs.length=N at *;go_wp2
 go_loopw [6,7,30] (fun _ _ i wr=>∃j:Nat,j<=N/\i=Y I j/\Hid (DoAt w0 wr C h p la lc rc tc vc sa ra wa va sc l sh {S with rd:=eM S.rd n k,vs:=S.vs.set n (fG sh k S.st ((gX l n).rs.take j) (S.vs.getD n []))} g0 c1 c2 c3 hi gr gw gv Br Bw Bv)/\Hid (Below C w wr)) (fun _ _ i _=>N - (intOf i).toNat)
 case atStart=>exact⟨0,nz,rfl,DS,B1⟩
 case round=>
  obtain⟨j,hj,rfl,hD,hB⟩:=hrel;clear DS D1 B1 x0 x1 ela;by_cases hlt:j<N
  ·have i1:(j:Int)<(N:Int):=om;obtain⟨_,_,_,_,_,_,hx⟩:=hD.out.reads hn;obtain⟨b',off',ea,_,k0⟩:=hx.r j om;clear hx;have ea:=EXA.out.symm.trans ea;subst ea;have HT:=Hi (HRL.out j hlt);obtain⟨hz,hz'⟩:=HG.out.r _ HT.out;have HZ:Hid ((gX l n).rs.getD j 0=(gX l n).rs.getD j 0):=rfl;generalize hz0:(gX l n).rs.getD j 0=z at hz hz' k0 HT;obtain⟨c,rfl⟩:=wg hz;have hc8:c<8:=om;have HC:=Hi hz0;have CL:Hid (Calls prog 242 _ wr fun e w'=>e=rt (bo (c%sh==k))/\Below wr.heap.size wr w'):=lies_at wr h p sh hD.out.h0 hD.out.p0 hs0 hs4 hc8
   have hVL:Hid (∀V:List Int,V.length=N->∀a,a<l.length->((S.vs.set n V).getD a []).length=(gX l a).rs.length):=fun V hV a ha=>by
    exact UC
   have hML:∀i,(fG sh k S.st ((gX l n).rs.take i) _).length=N:=fun i=>by rw[rQ,HVL.out]
   have hVg:∀a m,a<l.length->m<(gX l a).rs.length->((S.vs.set n (fG sh k S.st ((gX l n).rs.take (j+1)) _)).getD a []).getD m 0=if (c%sh==k)=true/\a=n/\m=j then S.st.getD c 0 else ((S.vs.set n (fG sh k S.st ((gX l n).rs.take j) _)).getD a []).getD m 0:=fun a m ha hm=>by
    exact vq
   have HV:=Hi hVg;have HML:=Hi hML;have HSL:Hid (∀V:List Int,(S.vs.set n V).length=l.length):=fun V=>by rw[we];exact HF.out.vs
   clear hML hVg HZ hz0 HT HRL hz hz'
   go_wp2_with fail
   refine CL.out.mono ?_;rintro e w1 ⟨rfl,hb1⟩;have E1:=Hi (hD.out.below hb1);have F1:=Hi (hB.out.trans (hb1.mono (by have:=hD.out.own.h1;have:=hD.out.own.h2;have:=hD.out.own.h3;have:=hD.out.own.h4;have:=hD.out.own.h5;omega)));clear CL hb1 hD hB k0;generalize hq:(c%sh==k)=q at *
   cases q
   ·have E2:Hid (DoAt w0 w1 C h p la lc rc tc vc sa ra wa va sc l sh {S with rd:=eM S.rd n k,vs:=S.vs.set n _} g0 c1 c2 c3 hi gr gw gv Br Bw Bv):=E1.out.to br (E1.out.own.asV (S.vs.set n (fG sh k S.st ((gX l n).rs.take (j+1)) (S.vs.getD n []))) (fun a m ha hm=>by rw[HV.out a m ha hm];simp) (HSL.out _) (hVL.out _ (HML.out _)));clear E1 HV HSL hVL HML;go_wp2;go_roundw
    case rel=>exact⟨j+1,by omega,by go_num,E2,F1⟩
    case measure=>simp[intOf];omega
   ·have E2:Hid (letI Z:=w1.setCell ⟨Bv n,j,Q⟩ (Y I (S.st.getD c 0));DoAt w0 Z C h p la lc rc tc vc sa ra wa va sc l sh {S with rd:=eM S.rd n k,vs:=S.vs.set n (fG sh k S.st ((gX l n).rs.take (j+1)) (S.vs.getD n []))} g0 c1 c2 c3 hi gr gw gv Br Bw Bv/\Below C w Z):=by
     have o:=E1.out.own.setV hn (by rw[hN];exact hlt) (S.st.getD c 0) (S.vs.set n (fG sh k S.st ((gX l n).rs.take (j+1)) (S.vs.getD n []))) (fun a m ha hm=>by rw[HV.out a m ha hm];simp) (HSL.out _) (hVL.out _ (HML.out _));have g1:=E1.out.own.h1;have g3:=E1.out.own.h3;obtain⟨b1,_⟩:=E1.out.own.vs.b n hn (by rw[hN];omega);exact⟨E1.out.to (br.setCell (by show C<=Bv n;omega) _) o,F1.out.setCell (by show C<=Bv n;omega) _⟩
    have y1:=E1.out.h1;have y4:=E1.out.h4;obtain⟨e1,_,_,e4,e5⟩:=E1.out.own.st.e dc;have z0:w1.cell? _=Y I (S.st.getD c 0):=e4 c hc8;obtain⟨f1,_,_⟩:=E1.out.own.vs.ad om;obtain⟨a',c',v0,v1,_,_⟩:=E1.out.own.vs.o n hn;have v1:=v1 (by rw[hN];omega);have v2:=E1.out.own.vs.c n j hn (by rw[hN];exact hlt);have v3:=E1.out.own.vs.f n j hn (by rw[hN];omega);rw[v1,hN]at v0;rw[e1]at y1;rw[f1]at y4;clear E1 HV HSL hVL HML e4 e5 e1 f1 v1;generalize S.st.getD c 0=uu at *
    go_wp2_with fail
    go_region
    all_goals go_wp2
    all_goals (
     go_roundw
     case rel=>exact⟨j+1,by omega,by go_num,E2.out.1.below (aD br),E2.out.2.trans ((aD br).mono E2.out.1.cs)⟩
     case measure=>simp[intOf];omega)
  ·have hjN:j=N:=om;subst hjN;rw[FIN.out]at hD;go_wp2;go_end0;exact⟨rfl,hD.out,hB.out⟩
end
theorem VS {p:Prop} (h:p:=by
 have h:=hD.out;rw[ld,tJ sh k _ _ _ (by rw[cM];exact HML.out)]at h;exact h):p:=h
theorem VV {p:Prop} (h:p:=by
 rw[li,wj hkl];exact ww hkl):p:=h
section
variable {w0 w:World} {C h p:Nat} {la:Option Addr} {lc rc tc vc:Nat} {sa ra wa va:Option Addr} {sc:Nat} {l:List TxA} {sh:Nat} {S:SA} {g0 c1 c2 c3 hi gr gw gv:Nat} {Br Bw Bv:Nat->Nat}
theorem write_at (D:DoAt w0 w C h p la lc rc tc vc sa ra wa va sc l sh S g0 c1 c2 c3 hi gr gw gv Br Bw Bv) (hn:n<l.length) (hk:k<sh) :
  Calls prog 198 #[pd (M ⟨h,0,Q⟩),Y I n,Y I k] w fun e w'=>e=rt (tu #[])/\DoAt w0 w' C h p la lc rc tc vc sa ra wa va sc l sh (dM sh l S n k) g0 c1 c2 c3 hi gr gw gv Br Bw Bv/\Below C w w':=by
 have h1:=D.own.h1;have h2:=D.own.h2;have hl8:=D.l8;have hs4:=D.s4;have hs0:=D.s0;have W1O:=D.own.setWr hn hk;have W1B:Below C w (w.setCell ⟨Bw n,k,Q⟩ (bo true)):=br.setCell (by obtain⟨b1,_⟩:=D.own.wr.b n hn hs0;show C<=Bw n;omega) _;have D1:=Hi (D.to W1B W1O);have B1:=Hi W1B;have HG:=Hi (D.good hn);have HE:bP (gX l n).rs (gX l n).gs (gX l n).ss=0:=eG D.ck n hn;have HSX:Hid (dM sh l S n k = {S with wr:=eM S.wr n k,st:=cE sh k S.st _ _}):=rfl;obtain⟨ewa,_,_⟩:=D.own.wr.ad om;obtain⟨a1,cc,r0,r1',_,_⟩:=D.own.wr.o n hn;have r1:=r1' hs0;subst r1;have r2:=D.own.wr.c n k hn hk;have r3:=D.own.wr.f n k hn hs0;have x0:=D.h0;have x2:=D.h3;rw[ewa]at x2;have HF:=Hi D.own.f;have hZL:=HF.out.vn n hn
 have hRE:yX (gX l n).rs (gX l n).gs (gX l n).ss (S.vs.getD n [])=0:=by
  show aH _=_;rw[aH,if_pos HE,aH];have:iS (gX l n).rs (S.vs.getD n [])=0:=if_pos hZL;rw[this];rfl
 clear W1B W1O D h1 h2 ewa;generalize dM sh l S n k=S9 at *;go_enter func198,ntmps198
 go_upto_region 1 with fail
 clear x0 x2 r0 r2 r3;generalize (w.setCell ⟨Bw n,k,Q⟩ (bo true))=W at *;obtain⟨b,off,ela,q0,q1,q2,hx⟩:=D1.out.reads hn;have x0:=D1.out.h0;have x1:=D1.out.p1;have x4:=D1.out.h4;rw[ela]at x1;obtain⟨f1,_,_⟩:=D1.out.own.vs.ad om;rw[f1]at x4;obtain⟨a',c',v0,v1,v2,_⟩:=D1.out.own.vs.o n hn;have v3:=D1.out.own.vs.c n;have v0:=v0;rw[<-hZL]at v0
 have HZ:IsInts W a' _:=fun i hi=>by
  have hi':i<(gX l n).rs.length:=by rw[<-hZL];exact hi
  exact⟨Bv n,0,v1 (by show 0<(gX l n).rs.length;omega),np W ⟨Bv n,i,Q⟩ (v3 i hn hi'),by rw[nw];exact v3 i hn hi'⟩
 have CR:Hid (letI Z:=aS (S.vs.getD n []) (gX l n).gs (gX l n).ss;∀w',Below W.heap.size W w'->Calls prog 184 #[ag #[J (gX l n).ra (gX l n).rs.length (gX l n).rc,J (gX l n).ga (gX l n).gs.length (gX l n).gc,J (gX l n).sa (gX l n).ss.length (gX l n).sc],J a' (S.vs.getD n []).length c'] w' (fun e w''=>∃va vc ma mc,e=rt (tu #[ag #[bo (dU (S.vs.getD n []) (gX l n).gs),J va (S.vs.getD n []).length vc],J ma Z.length mc,Y I 0])/\IsAt w'.heap.size w''.heap.size w'' va (S.vs.getD n [])/\IsAt w'.heap.size w''.heap.size w'' ma Z/\Below w'.heap.size w' w'')):=fun w' hb=>by
  have h:=qB (gX l n).ra (gX l n).ga (gX l n).sa (gX l n).rc (gX l n).gc (gX l n).sc (gX l n).rs (gX l n).gs (gX l n).ss a' c' (S.vs.getD n []) w' (hx.below hb) (HZ.below hb) v2;have e1:runD (gX l n).rs (gX l n).gs (gX l n).ss _=dU _ (gX l n).gs:=if_pos hRE;have e2:runV (gX l n).rs (gX l n).gs (gX l n).ss _=S.vs.getD n []:=if_pos hRE;have e3:runM (gX l n).rs (gX l n).gs (gX l n).ss _=aS _ (gX l n).gs (gX l n).ss:=if_pos hRE;rw[e1,e2,e3,hRE]at h;exact h
 have hML:(aS (S.vs.getD n []) (gX l n).gs (gX l n).ss).length<=(gX l n).ss.length:=by unfold aS;split <;> simp[eY]
 have hs3:=(bI _ _ _ (bR HE).1).2.2.1;have HML:=Hi hML;clear hx v1 v2 v3 HZ hRE HE hZL f1 ela HF;generalize hM:aS (S.vs.getD n []) (gX l n).gs (gX l n).ss=Mm at *;clear hM;generalize hZ:S.vs.getD n []=Z at *;clear hZ;generalize dU Z (gX l n).gs=DD at *;have HKS:Hid (∀w',Below W.heap.size W w'->w'.cell? ⟨h,0,Q⟩=M _/\w'.cell? ⟨h,4,Q⟩=M _/\w'.cell? ⟨p,1,Q⟩=M _/\w'.cell? _=M _/\w'.cell? _=M _/\w'.cell? _=M _/\w'.cell? ⟨gv,n,Q⟩=J a' Z.length c'/\Hid _):=fun w' hb=>⟨aB hb x0,aB hb x4,aB hb x1,aB hb q0,aB hb q1,aB hb q2,aB hb v0,hb⟩
 go_cut [7,8] (fun m e wx=>∃ma mc,m=J ma Mm.length mc/\e=Y I 0/\IsAt W.heap.size wx.heap.size wx ma Mm/\Below W.heap.size W wx)
 case first=>
  clear x0 x1 x4 q0 q1 q2 v0 HML hML hs3 HG HSX D1 B1
  go_region_held3 (fun w'=>w'.cell? ⟨h,0,Q⟩=pd (M ⟨p,0,Q⟩)/\w'.cell? ⟨h,4,Q⟩=J (M ⟨gv,0,Q⟩) l.length vc/\w'.cell? ⟨p,1,Q⟩=J (M ⟨b,off,Q⟩) l.length lc/\w'.cell? ⟨b,off+n*3,Q⟩=J (gX l n).ra (gX l n).rs.length (gX l n).rc/\w'.cell? ⟨b,off+n*3+1,Q⟩=J (gX l n).ga (gX l n).gs.length (gX l n).gc/\w'.cell? ⟨b,off+n*3+2,Q⟩=J (gX l n).sa (gX l n).ss.length (gX l n).sc/\w'.cell? ⟨gv,n,Q⟩=J a' Z.length c'/\Hid (Below W.heap.size W w')) ((refine HKS.out _ ?_;go_split_ands;repeat (first | assumption | exact br | exact Hid.out (by assumption) | refine aD ?_ | refine aA ?_ _ | refine aG ?_ (by first | exact nr | omega | (simp;done) | (simp at *;omega)) _ | refine aC ?_ (by assumption))))
   (first
    | (go_at_call 184;refine(CR.out _ ?_).mono ?_;(go_split_ands;exact Hid.out (by assumption));rintro e wb ⟨va',vc',ma,mc,rfl,hva,hma,hbb⟩;have hwb:=rD hbb;(first | (obtain⟨t0,t1,tf⟩:=pI (V:=W) hbb rfl) | skip)))
  all_goals (go_wp2_with fail;go_meet)
  all_goals (
   have e2:W.heap.size<=wb.heap.size:=by first | exact hwb | (have h:=hwb;simp at h;omega)
   go_split_ands
   first
    | exact⟨ma,mc,rfl,rfl,(hma.below (aA br _)).widen (by first | exact nr | (simp;done)) sm,Hid.out (by assumption)⟩
    | exact⟨ma,mc,rfl,rfl,((hma.set ⟨_,0,Q⟩ _ (.inl (by first | (simp;done) | omega))).set ⟨_,1,Q⟩ _ (.inl (by first | (simp;done) | omega))).widen (by first | exact nr | (simp;done)) sm,Hid.out (by assumption)⟩)
 case rest=>
  obtain⟨ma,mc,rfl,rfl,hma,hbc⟩:=hcut
  go_wp2_with fail
  refine(aQ [0] _ 1 _ sm rfl (dS _ _ _ sm)).mono ?_;rintro e W2 ⟨rfl,rfl⟩;have Uuu:Below wc.heap.size wc (wc.alloc (U #[Y I 0] 22)):=aA br _;have UV:=aC hbc Uuu;have hMA:=Hi (hma.below Uuu);have D2:Hid (DoAt w0 _ C h p la lc rc tc vc sa ra wa va sc l sh {S with wr:=eM S.wr n k,st:=cE sh k S.st ((aJ (gX l n).ss).take 0) (Mm.take 0)} g0 c1 c2 c3 hi gr gw gv Br Bw Bv):=D1.out.below UV;have B2:=Hi (B1.out.trans (UV.mono D1.out.cs));have gW:=Hi (((D1.out.own.st.e dc).2.2.1));clear Uuu UV hma hbc HKS CR x0 x1 x4 q0 q1 q2 v0 D1 B1;generalize wc.heap.size=hiM at *;generalize (wc.alloc (U #[Y I 0] 22))=W3 at *;go_wp2
  go_loopw [9,10,11,50] (fun _ _ _ i wr=>∃j:Nat,j<=Mm.length/\i=Y I j/\Hid (DoAt w0 wr C h p la lc rc tc vc sa ra wa va sc l sh {S with wr:=eM S.wr n k,st:=cE sh k S.st ((aJ (gX l n).ss).take j) (Mm.take j)} g0 c1 c2 c3 hi gr gw gv Br Bw Bv)/\Hid (IsAt W.heap.size hiM wr ma Mm)/\Hid (Below C w wr)) (fun _ _ _ i _=>Mm.length - (intOf i).toNat)
  case atStart=>exact⟨0,nz,rfl,D2,hMA,B2⟩
  case round=>
   obtain⟨j,hj,rfl,hD,hA,hB⟩:=hrel;clear D2 hMA B2;by_cases hlt:j<Mm.length
   ·have i1:(j:Int)<(Mm.length:Int):=om;have hjs:j<(gX l n).ss.length:=om;obtain⟨bt,ot,ela,_,_,t2,hx⟩:=hD.out.reads hn;obtain⟨b',off',ea,_,k0,_⟩:=hx.s j hjs;clear hx;obtain⟨bm,ovm,em,_,_,m0⟩:=hA.out j hlt;have hkl:j<(aJ (gX l n).ss).length:=by rw[cM];exact hjs
    have k1:wr.cell? ⟨b',off'+j*6,Q⟩=Y I ((aJ (gX l n).ss).getD j 0):=by rw[jR _ j hjs];exact k0
    have HT:(aJ (gX l n).ss).getD j 0∈aJ (gX l n).ss:=by
     exact VV
    obtain⟨hz,hz'⟩:=HG.out.s _ HT;have HP:Hid (letI Z:=(aJ (gX l n).ss).getD j 0;cE sh k S.st _ _=if Z.toNat%sh=k then (cE sh k S.st _ (Mm.take j)).set Z.toNat _ else cE sh k S.st _ (Mm.take j)):=qI sh k _ _ _ j hkl hlt;clear k0 HT;generalize (aJ (gX l n).ss).getD j 0=z at *;obtain⟨c,rfl⟩:=wg hz;have hc8:c<8:=om;have CL:Hid (∀wx,DoAt w0 wx C h p la lc rc tc vc sa ra wa va sc l sh {S with wr:=eM S.wr n k,st:=cE sh k S.st ((aJ (gX l n).ss).take j) (Mm.take j)} g0 c1 c2 c3 hi gr gw gv Br Bw Bv->Calls prog 242 _ wx fun e w'=>e=rt (bo (c%sh==k))/\Below wx.heap.size wx w'):=fun wx hd=>lies_at wx h p sh hd.h0 hd.p0 hs0 hs4 hc8
    have y0:=hD.out.h0;have y1:=hD.out.p1;rw[ela]at y1;rw[ea]at t2;subst em;clear ela ea hz hz';generalize Mm.getD j 0=uu at *
    go_wp2_with fail
    refine(CL.out wr hD.out).mono ?_;rintro e w1 ⟨rfl,hb1⟩;have E1:=Hi (hD.out.below hb1);have F1:=Hi (hB.out.trans (hb1.mono hD.out.cs));have A1:=Hi (hA.out.below hb1);clear CL hb1 hD hB hA k1 m0 t2 y0 y1;generalize hq:(c%sh==k)=q at *
    cases q
    ·have E2:Hid (DoAt w0 w1 C h p la lc rc tc vc sa ra wa va sc l sh {S with wr:=eM S.wr n k,st:=cE sh k S.st ((aJ (gX l n).ss).take (j+1)) (Mm.take (j+1))} g0 c1 c2 c3 hi gr gw gv Br Bw Bv):=by
      have e:=HP.out;rw[if_neg (by simp at hq;simpa using hq)]at e;rw[e];exact E1.out
     clear E1 HP;go_wp2;go_roundw
     case rel=>exact⟨j+1,by omega,by go_num,E2,A1,F1⟩
     case measure=>simp[intOf];omega
    ·have y0:=E1.out.h0;have y1:=E1.out.h1;obtain⟨e1,e2,_,e4,e5⟩:=E1.out.own.st.e dc;have z0:=e4 c hc8;have z1:=e5 c;rw[e1]at y1
     have E2:Hid (letI Z:=w1.setCell ⟨g0,c,Q⟩ (Y I uu);DoAt w0 Z C h p la lc rc tc vc sa ra wa va sc l sh {S with wr:=eM S.wr n k,st:=cE sh k S.st ((aJ (gX l n).ss).take (j+1)) (Mm.take (j+1))} g0 c1 c2 c3 hi gr gw gv Br Bw Bv/\Below C w Z/\IsAt W.heap.size hiM Z (M ⟨bm,ovm,Q⟩) Mm):=by
      have e:=HP.out;rw[if_pos (by simpa using hq)]at e;rw[e];exact⟨E1.out.to (br.setCell (by show C<=g0;exact e2) _) (E1.out.own.setS hc8 uu),F1.out.setCell (by show C<=g0;exact e2) _,A1.out.set ⟨g0,c,Q⟩ _ (.inl gW.out)⟩
     generalize Y I ((cE sh k S.st ((aJ (gX l n).ss).take j) (Mm.take j)).getD c 0)=old at *;clear E1 HP e4 e5 e1 A1 F1;go_wp2;go_roundw
     case rel=>exact⟨j+1,by omega,by go_num,E2.out.1,E2.out.2.2,E2.out.2.1⟩
     case measure=>simp[intOf];omega
   ·have hjN:j=Mm.length:=om;subst hjN
    have FX:Hid (DoAt w0 wr C h p la lc rc tc vc sa ra wa va sc l sh S9 g0 c1 c2 c3 hi gr gw gv Br Bw Bv):=by
     rw[HSX.out];exact VS
    clear hD hA;go_wp2;go_end0;exact⟨rfl,FX.out,hB.out⟩
end
end Go.Proofs.YtcgpkonfneofdaaGreatDoor
