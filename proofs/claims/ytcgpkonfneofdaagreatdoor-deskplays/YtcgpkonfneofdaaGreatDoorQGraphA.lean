/- Conditions: those that each theorem states. -/
import Derived.Test.YtcgpkonfneofdaaGreatDoorQTxnL
import Derived.Test.YtcgpkonfneofdaaGreatDoorQTxnF
import Derived.Maps.AppendAt
import Derived.Deep.Slices
import Derived.Deep.Strs
set_option maxRecDepth 100000
set_option maxHeartbeats 8000000
namespace Go.Proofs.YtcgpkonfneofdaaGreatDoor
open Go.RowKit Go.Proofs.Tryz
open Go.Value renaming slice->J,int->Y,bool->bo,pointer->pd,agg->ag,tuple->tu,string->sg,iface->fc
open Go.IntKind renaming i64->I
open Go.Obj renaming cells->U
open Go.Ending renaming returned->rt,panicked->pg
open Option renaming some->M,none->Q
variable {p:Prop} {w':World} {a:Option Addr} {v:Value}
theorem ub (h:p:=by
 have hI1:=Hi (HKA.out.below (by rw[hB];exact hnx));have hI2:=Hi (hra.out.below (by rw[hB];exact hnx));by_cases m1:(k:Int)∈aJ ss
 ·have HS:=Hi (lkTo_set rs _ k m1);have HD:=Hi (decide_eq_true m1);clear m1
  go_wp2_with fail
  refine(cY k (aJ ss) ka kc _ hkl.out hI1.out).mono ?_;rintro e w' ⟨rfl,rfl⟩;rw[HD.out]
  go_wp2_with (first | (at_builtin;(refine wpList_append_own _ rfl _ _ 265 rfl B 286 i0 (ag #[Y I 0,bo false]) 2 16 underlying265 hi hz0 hz1 hz2 rfl dc _ _ _ rfl (hown.alloc _) _ 1 1 [Y I k,bo true] rfl rfl (vT _ _ _ _ sm) (one_lk _ _) (by unfold maxLen;omega) om (by simp;omega) ?_);intro v' w1 hown' hgrow _) | go_in)
  exact yi
 ·have HD:=Hi (decide_eq_false m1);by_cases m2:(k:Int)∈rs
  ·have HS:=Hi (aAu rs _ k m1 m2);have HD2:=Hi (decide_eq_true m2);clear m1 m2
   go_wp2_with fail
   refine(cY k (aJ ss) ka kc _ hkl.out hI1.out).mono ?_;rintro e w' ⟨rfl,rfl⟩;rw[HD.out]
   go_wp2_with fail
   refine(cY k rs ra rc _ hlr.out hI2.out).mono ?_;rintro e w' ⟨rfl,rfl⟩;rw[HD2.out]
   go_wp2_with (first | (at_builtin;(refine wpList_append_own _ rfl _ _ 265 rfl B 286 i0 (ag #[Y I 0,bo false]) 2 16 underlying265 hi hz0 hz1 hz2 rfl dc _ _ _ rfl (hown.alloc _) _ 1 1 [Y I k,bo false] rfl rfl (vT _ _ _ _ sm) (one_lk _ _) (by unfold maxLen;omega) om (by simp;omega) ?_);intro v' w1 hown' hgrow _) | go_in)
   exact yi
  ·have HS:=Hi (aAv rs _ k m1 m2);have HD2:=Hi (decide_eq_false m2);clear m1 m2
   go_wp2_with fail
   refine(cY k (aJ ss) ka kc _ hkl.out hI1.out).mono ?_;rintro e w' ⟨rfl,rfl⟩;rw[HD.out]
   go_wp2_with fail
   refine(cY k rs ra rc _ hlr.out hI2.out).mono ?_;rintro e w' ⟨rfl,rfl⟩;rw[HD2.out];go_wp2;go_roundw
   case rel=>exact⟨k+1,by omega,by go_num,by rw[HS.out];exact hown,hnx⟩
   case measure=>simp[intOf];omega):p:=h
theorem vp (h:p:=by
 go_wp2;exact VH):p:=h
theorem yi (h:p:=by
 have R:w1.ownsRow B 286 2 v' (bQ rs (aJ ss) (k+1)).length (fZ (bQ rs (aJ ss) (k+1))):=by
  rw[HS.out,jO,nj];exact hown'
 have RB:=(hnx.alloc hsz _).grown hgrow (by simp;omega) (fun j hj=>(hown.lt j hj).1);clear hown' hgrow hown hnx;exact vp):p:=h
section
def bQ (rs ks:List Int):Nat->List (Int×Bool)
 | 0=>[]
 | n+1=>bQ rs ks n++(if (n:Int)∈ks∨(n:Int)∈rs then [((n:Int),decide ((n:Int)∈ks))] else [])
def fZ (l:List (Int×Bool)):List Value:=l.flatMap fun p=>[Y I p.1,bo p.2]
def lksOf (rs:List Int) (gs:List Gd) (ss:List St):List (Int×Bool):=if bP rs gs ss=0 then bQ rs (aJ ss) 8 else []
theorem oK (rs ks:List Int):∀n,(bQ rs ks n).length<=n
 | 0=>nr
 | n+1=>by
  have:=oK rs ks n;unfold bQ;split <;> simp <;> omega
theorem jO (l m:List (Int×Bool)):fZ (l++m)=fZ l++fZ m:=by simp[fZ]
theorem lkTo_set (rs ks:List Int) (n:Nat) (h:(n:Int)∈ks):bQ rs ks (n+1)=bQ rs ks n++[((n:Int),true)]:=by
 rw[bQ,if_pos (.inl h)];simp[h]
theorem aAu (rs ks:List Int) (n:Nat) (h:¬(n:Int)∈ks) (h':(n:Int)∈rs):bQ rs ks (n+1)=bQ rs ks n++[((n:Int),false)]:=by
 rw[bQ,if_pos (.inr h')];simp[h]
theorem aAv (rs ks:List Int) (n:Nat) (h:¬(n:Int)∈ks) (h':¬(n:Int)∈rs):bQ rs ks (n+1)=bQ rs ks n:=by
 rw[bQ,if_neg (by simp[h,h'])];simp
def IsLks (w:World) (a:Option Addr) (l:List (Int×Bool)):Prop:=
 ∀i,i<l.length->∃b off,a=M ⟨b,off,Q⟩/\b<w.heap.size/\w.cell? ⟨b,off+i*2,Q⟩=Y I (l.getD i (0,false)).1/\w.cell? ⟨b,off+i*2+1,Q⟩=bo (l.getD i (0,false)).2
theorem IsLks.below {w:World} {l:List (Int×Bool)} (h:IsLks w a l) (hb:Below w.heap.size w w'):IsLks w' a l:=by
 intro i hi;obtain⟨b,off,ha,hlt,h0,h1⟩:=h i hi;refine⟨b,off,ha,nd hlt hb.size,?_,?_⟩ <;> (rw[hb.cell hlt];assumption)
theorem qX:∀(l:List (Int×Bool)) (i:Nat),i<l.length->(fZ l)[i*2]?=M (Y I (l.getD i (0,false)).1)/\(fZ l)[i*2+1]?=M (bo (l.getD i (0,false)).2)
 | [],i,h=>by simp at h
 | p::t,0,_=>by simp[fZ]
 | p::t,i+1,h=>by
  have:=qX t i (by simpa using h);have e:fZ (p::t)=Y I p.1::bo p.2::fZ t:=by simp[fZ]
  rw[e];have e1:(i+1)*2=i*2+1+1:=om;rw[e1];simpa using this
theorem uK {w:World} {base:Nat} {n:Nat} {l:List (Int×Bool)} (h:w.ownsRow base 286 2 v n (fZ l)) (hn:l.length=n):∃a cap,v=J a l.length cap/\IsLks w a l:=by
 rcases h.2 with ⟨rfl,h0⟩ | ⟨g,cap,cur,rfl,hb,hg,hnc,hcm,hcs,htake⟩
 ·exact xx
 ·refine⟨M ⟨g,0,Q⟩,cap,by rw[hn],fun i hi=>⟨g,0,rfl,(Array.getElem?_eq_some_iff.1 hg).1,?_,?_⟩⟩
  ·rw[nw,h.cellAt (i*2) om];exact(qX l i hi).1
  ·rw[nw,h.cellAt (i*2+1) om];exact(qX l i hi).2
theorem vT (w:World) (x:Int) (y:Bool) (s:Nat) (hs:s=w.heap.size):∀j u,[Y I x,bo y][j]?=M u->(w.alloc (U #[Y I x,bo y] 286)).cell? ((⟨s,0,Q⟩:Addr).add j)=M u:=by
 subst hs;intro j u hj
 match j,hj with
 | 0,hj=>simp at hj;subst hj;simp[Addr.add]
 | 1,hj=>simp at hj;subst hj;simp[Addr.add]
theorem one_lk (x:Int) (y:Bool):∀u∈[Y I x,bo y],u.oneCell'=true:=by
 intro u hu;simp at hu;rcases hu with rfl | rfl <;> rfl
theorem info286:(prog.info? 286).map (fun i=>(i.zero,i.size,i.bytes))=M (M (ag #[Y I 0,bo false]),2,16):=by kernel_rfl
variable (ra ga sa:Option Addr) (rc gc sc:Nat) (rs:List Int) (gs:List Gd) (ss:List St)
theorem locks_bad (w:World) (ht:IsTx w ra ga sa rs gs ss) (hc:¬bP rs gs ss=0) :
  Kr 235 #[ag #[J ra rs.length rc,J ga gs.length gc,J sa ss.length sc]] w (tu #[J Q 0 0,Y I (bP rs gs ss)]):=by
 have hb:(bP rs gs ss != 0)=true:=by simpa using hc
 clear hc;go_enter func235,ntmps235
 go_wp2_with fail
 refine(fA ra ga sa rc gc sc rs gs ss _ (ht.below (aA br _))).mono ?_;rintro e w1 ⟨rfl,hb1⟩;have HB:=Hi (aC (aA br _) hb1);clear hb1 ht;go_wp2;go_ret2;exact⟨rfl,HB.out⟩
theorem locks_ok (w:World) (ht:IsTx w ra ga sa rs gs ss) (hc:bP rs gs ss=0) (h3:ss.length<=3) :
  Calls prog 235 #[ag #[J ra rs.length rc,J ga gs.length gc,J sa ss.length sc]] w fun e w'=>∃a cap,e=rt (tu #[J a (bQ rs (aJ ss) 8).length cap,Y I 0])/\IsLks w' a (bQ rs (aJ ss) 8)/\Below w.heap.size w w':=by
 obtain⟨i0,hi,hz0,hz1,hz2⟩:=info_parts info286;have HT:=Hi ht;have HC:=Hi hc;have hkl:Hid ((aJ ss).length<=maxLen):=by rw[cM];exact ht.ls
 clear ht hc;go_enter func235,ntmps235
 go_wp2_with fail
 refine(fA ra ga sa rc gc sc rs gs ss _ (HT.out.below (aA br _))).mono ?_;rintro e w1 ⟨rfl,hb1⟩;rw[HC.out];have x0:w1.cell? ⟨w.heap.size,0,Q⟩=J ra rs.length rc:=(hb1.cell sm).trans sm;have x1:w1.cell? ⟨w.heap.size,1,Q⟩=J ga gs.length gc:=(hb1.cell sm).trans sm;have x2:w1.cell? ⟨w.heap.size,2,Q⟩=J sa ss.length sc:=(hb1.cell sm).trans sm;have B1:=aC (aA br _) hb1;clear hb1 HC
 go_wp2_with fail
 refine(lH ra ga sa rc gc sc rs gs ss _ (HT.out.below B1) h3).mono ?_;rintro e W ⟨ka,kc,rfl,hka,hbW⟩;have y0:=aB hbW x0;have hW:=Hi (aC B1 hbW);have hra:=Hi (HT.out.r.below hW.out);have hlr:=Hi HT.out.lr;have HKA:=Hi hka;have hq:w.heap.size<W.heap.size:=np W _ y0;clear x0 x1 x2 B1 hbW HT hka;generalize hB:W.heap.size=B at *
 go_wp2_with fail
 go_loopw [5,7,8,16] (fun v _ _ i wr=>∃k:Nat,k<=8/\i=Y I k/\wr.ownsRow B 286 2 v (bQ rs (aJ ss) k).length (fZ (bQ rs (aJ ss) k))/\Below B W wr) (fun _ _ _ i _=>8 - (intOf i).toNat)
 case atStart=>exact⟨0,nz,rfl,n8 _ _ _ _,br⟩
 case round=>
  obtain⟨k,hk,rfl,hown,hnx⟩:=hrel;have hsz:B<=wr.heap.size:=by have:=hnx.size;omega
  have q0:=(hnx.cell (p:=⟨w.heap.size,0,Q⟩) hq).trans y0;have hll:=oK rs (aJ ss) k;by_cases hlt:k<8
  ·exact ub
  ·have hk8:k=8:=om;subst hk8;obtain⟨a,cap,hv,hL⟩:=uK hown rfl;have RB:=hW.out.trans (hnx.mono om);rw[hv];clear hown hnx hv;go_wp2;go_ret2;exact⟨a,cap,rfl,hL,RB⟩
theorem locks_any (w:World) (ht:IsTx w ra ga sa rs gs ss) :
  Calls prog 235 #[ag #[J ra rs.length rc,J ga gs.length gc,J sa ss.length sc]] w fun e w'=>∃a cap,e=rt (tu #[J a (lksOf rs gs ss).length cap,Y I (bP rs gs ss)])/\IsLks w' a (lksOf rs gs ss)/\Below w.heap.size w w':=by
 by_cases hc:bP rs gs ss=0
 ·have hm:cW rs.length gs.length ss.length=0:=by
   by_cases hm:cW rs.length gs.length ss.length=0
   ·exact hm
   ·have:=sC rs gs ss hm;omega
  have h3:=(bI _ _ _ hm).2.2.1;have hl:lksOf rs gs ss=bQ rs _ 8:=if_pos hc;rw[hl,hc];exact locks_ok ra ga sa rc gc sc rs gs ss w ht hc h3
 ·have hl:lksOf rs gs ss=[]:=if_neg hc;rw[hl];exact(locks_bad ra ga sa rc gc sc rs gs ss w ht hc).mono fun _ _ ⟨he,hb⟩=>⟨Q,0,he,fun i hi=>absurd hi sm,hb⟩
end
theorem U7 (h:p:=by
 subst hs;intro i hi;refine⟨w.heap.size,0,rfl,by simp,?_⟩
 match i,hi with
 | 0,_=>simp):p:=h
def sNote:St:=⟨5,1,2,0,1,0⟩
def gPay (n:Int):Gd:=⟨4,1,n,2,0⟩
def s1Pay (n:Int):St:=⟨0,3,2,0,1,n⟩
def s2Pay (n:Int):St:=⟨1,2,2,1,1,n⟩
theorem isInts_one (w:World) (s:Nat) (x:Int) (hs:s=w.heap.size):IsInts (w.alloc (U #[Y I x] 3)) (M ⟨s,0,Q⟩) [x]:=by
 exact U7
theorem isSs_one (w:World) (s:Nat) (a b c d e f:Int) (hs:s=w.heap.size):IsSs (w.alloc (U #[Y I a,Y I b,Y I c,Y I d,Y I e,Y I f] 102)) (M ⟨s,0,Q⟩) [⟨a,b,c,d,e,f⟩]:=by
 exact U7
theorem isSs_two (w:World) (s:Nat) (a b c d e f a' b' c' d' e' f':Int) (hs:s=w.heap.size):IsSs (w.alloc (U #[Y I a,Y I b,Y I c,Y I d,Y I e,Y I f,Y I a',Y I b',Y I c',Y I d',Y I e',Y I f'] 102)) (M ⟨s,0,Q⟩) [⟨a,b,c,d,e,f⟩,⟨a',b',c',d',e',f'⟩]:=by
 exact Vp
theorem isGs_one (w:World) (s:Nat) (a b c d e:Int) (hs:s=w.heap.size):IsGs (w.alloc (U #[Y I a,Y I b,Y I c,Y I d,Y I e] 99)) (M ⟨s,0,Q⟩) [⟨a,b,c,d,e⟩]:=by
 exact U7
theorem bV:runV [0,1] [gPay 3] [s1Pay 3,s2Pay 3] [2,1]=[2,1]:=by decide
section
open Go.ChangeShapes Go.WideShapes Go.ChangeAt Go.RowKit Go.Deep
structure TxA where
 ra:Option Addr
 ga:Option Addr
 sa:Option Addr
 rc:Nat
 gc:Nat
 sc:Nat
 rs:List Int
 gs:List Gd
 ss:List St
def x0:TxA:=⟨Q,Q,Q,0,0,0,[],[],[]⟩
structure IsX (w:World) (x:TxA):Prop where
 t:IsTx w x.ra x.ga x.sa x.rs x.gs x.ss
 rn:x.ra=Q->x.rc=0
 gn:x.ga=Q->x.gc=0
 sn:x.sa=Q->x.sc=0
theorem IsX.below {w:World} {x:TxA} (h:IsX w x) (hb:Below w.heap.size w w'):IsX w' x:=⟨h.t.below hb,h.rn,h.gn,h.sn⟩
def IsTxs (w:World) (a:Option Addr) (l:List TxA):Prop:=
 ∀i,i<l.length->∃b off,a=M ⟨b,off,Q⟩/\b<w.heap.size/\w.cell? ⟨b,off+i*3,Q⟩=J (l.getD i x0).ra (l.getD i x0).rs.length (l.getD i x0).rc/\w.cell? ⟨b,off+i*3+1,Q⟩=J (l.getD i x0).ga (l.getD i x0).gs.length (l.getD i x0).gc/\w.cell? ⟨b,off+i*3+2,Q⟩=J (l.getD i x0).sa (l.getD i x0).ss.length (l.getD i x0).sc/\IsX w (l.getD i x0)
theorem IsTxs.below {w:World} {l:List TxA} (h:IsTxs w a l) (hb:Below w.heap.size w w'):IsTxs w' a l:=fun i hi=>by
 obtain⟨b,off,ha,hlt,c0,c1,c2,hx⟩:=h i hi;exact⟨b,off,ha,nd hlt hb.size,aB hb c0,aB hb c1,aB hb c2,hx.below hb⟩
def kF (x:TxA):Int:=bP x.rs x.gs x.ss
def eN (l:List TxA):Int:=if 8<l.length then 2 else aH (l.map kF)
def uP (s:List Int) (k:Int):Int:=s.getD k.toNat 0
def dA (s:List Int) (rs:List Int):List Int:=rs.map (uP s)
def cD:List Int->List Int->List Int->List Int
 | s,k::ks,v::vs=>cD (s.set k.toNat v) ks vs
 | s,_,_=>s
def uZ (s:List Int) (x:TxA):Bool:=dU (dA s x.rs) x.gs
def pY (s:List Int) (x:TxA):List Int:=dA s x.rs
def aMade (s:List Int) (x:TxA):List Int:=aS (dA s x.rs) x.gs x.ss
def pM (s:List Int) (x:TxA):List Int:=cD s (aJ x.ss) (aMade s x)
def bK:List Int->List TxA->List Int
 | s,[]=>s
 | s,x::t=>bK (pM s x) t
def bE:List Int->List TxA->List (Bool×List Int)
 | _,[]=>[]
 | s,x::t=>(uZ s x,pY s x)::bE (pM s x) t
theorem kU:∀(ks s vs:List Int),(cD s ks vs).length=s.length
 | [],s,vs=>by cases vs <;> rfl
 | k::ks,s,[]=>rfl
 | k::ks,s,v::vs=>by rw[cD,kU ks];simp
theorem aEnd_len (s:List Int) (x:TxA):(pM s x).length=s.length:=kU _ _ _
theorem fQ:∀(l:List TxA) (s:List Int),(bK s l).length=s.length
 | [],_=>rfl
 | x::t,s=>by rw[bK,fQ t,aEnd_len]
theorem fP:∀(l:List TxA) (s:List Int),(bE s l).length=l.length
 | [],_=>rfl
 | x::t,s=>by rw[bE,lh,fP t];rfl
theorem mJ (s rs:List Int):(dA s rs).length=rs.length:=by simp[dA]
theorem wS:∀(l m:List TxA) (s:List Int),bK s (l++m)=bK (bK s l) m
 | [],_,_=>rfl
 | x::t,m,s=>by rw[List.cons_append,bK,bK,wS t]
theorem wR:∀(l m:List TxA) (s:List Int),bE s (l++m)=bE s l++bE (bK s l) m
 | [],_,_=>rfl
 | x::t,m,s=>by rw[List.cons_append,bE,bE,wR t,bK];rfl
theorem take_x (l:List TxA) (k:Nat) (h:k<l.length):l.take (k+1)=l.take k++[l.getD k x0]:=by
 rw[lp h];simp[List.getD,h]
theorem lI (s:List Int) (l:List TxA) (k:Nat) (h:k<l.length):bK s (l.take (k+1))=pM (bK s (l.take k)) (l.getD k x0):=by
 rw[take_x l k h,wS];rfl
theorem uD (s:List Int) (l:List TxA) (k:Nat) (h:k<l.length):bE s (l.take (k+1))=bE s (l.take k)++[(uZ (bK s (l.take k)) (l.getD k x0),pY (bK s (l.take k)) (l.getD k x0))]:=by
 rw[take_x l k h,wR];rfl
theorem oF:∀(ks s vs:List Int) (k:Nat),k<ks.length->k<vs.length->cD s (ks.take (k+1)) (vs.take (k+1))=(cD s (ks.take k) (vs.take k)).set (ks.getD k 0).toNat (vs.getD k 0)
 | a::ks,s,v::vs,0,_,_=>by simp[cD]
 | a::ks,s,v::vs,k+1,h,h'=>by
  simp only[List.take_succ_cons,cD];have:=oF ks (s.set a.toNat v) vs k (by simpa using h) (by simpa using h');rw[this];simp[List.getD]
 | [],_,_,_,h,_=>absurd h sm
 | _::_,_,[],_,_,h=>absurd h sm
theorem jT (l:List Int) (i j:Nat) (v:Int) (h:i≠j):(l.set i v).getD j 0=l.getD j 0:=by simp[List.getD,List.getElem?_set_ne h]
theorem qJ:∀(ks s vs:List Int) (i:Nat),(∀k∈ks,k.toNat≠i)->(cD s ks vs).getD i 0=s.getD i 0
 | [],s,vs,i,_=>by cases vs <;> rfl
 | k::ks,s,[],i,_=>rfl
 | k::ks,s,v::vs,i,h=>by
  rw[cD,qJ ks _ vs i (fun k' hk=>h k' (ly _ hk)),jT _ _ _ _ (h k (wl))]
end
theorem Ur (h:p:=by
 refine⟨h.1,?_⟩;rcases h.2 with hn | ⟨g,cap,cur,e1,hbg,rest⟩
 ·exact .inl hn
 ·exact .inr ⟨g,cap,cur,e1,nh hb hbg,rest⟩):p:=h
theorem UO (h:p:=by
 clear hbW hnx d0 d1 d2;go_wp2;go_roundw
 case rel=>exact⟨k+1,by omega,by go_num,HN,RB⟩
 case measure=>simp[intOf];omega):p:=h
theorem Vc (h:p:=by
 have H':Hid (aH (l.map kF)=0):=by
  exact zo
 clear hno hl;go_wp2;go_ret;exact⟨by rw[H.out,H'.out];rfl,hnx⟩):p:=h
theorem Xh (h:p:=by
 generalize s.length=n at *;clear h;go_enter func78,ntmps78;exact uj):p:=h
theorem Xl (h:p:=by
 clear hbW hnx d0 d1 d2;go_wp2;go_ret;exact⟨by rw[H.out,HV.out];rfl,RB⟩):p:=h
theorem Xn (h:p:=by
 unfold eN at h;by_cases c:8<l.length
 ·rw[if_pos c]at h;omega
 ·omega):p:=h
section
theorem wH (s:List Int) (sa:Option Addr) (sc:Nat) (w:World) :
  Calls prog 78 #[J sa s.length sc] w fun e w'=>e=rt (Y I (if s.length=8 then 0 else 1))/\w'=w:=by
 by_cases h:s.length=8
 ·rw[if_pos h];have h':((s.length:Int) != 8)=false:=by simp;omega
  exact Xh
 ·rw[if_neg h];have h':((s.length:Int) != 8)=true:=by simp;omega
  exact Xh
theorem fW (s:List Int) (sa:Option Addr) (sc:Nat) (w:World) :
  Calls prog 97 #[J sa s.length sc] w fun e w'=>e=rt (bo (decide (s.length=8)))/\w'=w:=by
 have h':((s.length:Int)==8)=decide (s.length=8):=by
  by_cases h:s.length=8
  ·simp[h]
  ·simp[h];omega
 generalize s.length=n at *;go_enter func97,ntmps97;exact uj
variable (la:Option Addr) (lc:Nat) (l:List TxA)
theorem kY (w:World) (hl:IsTxs w la l) :
  Kr 64 #[J la l.length lc] w (Y I (eN l)):=by
 by_cases h8:8<l.length
 ·have H:Hid (eN l=2):=if_pos h8;clear hl;go_enter func64,ntmps64;go_wp2;go_ret;exact⟨by rw[H.out];rfl,br⟩
 ·have H:Hid (eN l=aH _):=if_neg h8;go_enter func64,ntmps64;go_wp2
  go_loopw [4,5,11] (fun _ _ i wr=>∃k:Nat,k<=l.length/\i=Y I k/\Hid (aH (l.map kF)=aH ((l.map kF).drop k))/\Below w.heap.size w wr) (fun _ _ i _=>l.length - (intOf i).toNat)
  case atStart=>exact⟨0,nz,rfl,rfl,br⟩
  case round=>
   obtain⟨k,hk,rfl,hno,hnx⟩:=hrel;by_cases hlt:k<l.length
   ·obtain⟨b,off,rfl,hb,c0,c1,c2,hx⟩:=hl k hlt;have d0:=aB hnx c0;have d1:=aB hnx c1;have d2:=aB hnx c2;have HX:=Hi (hx.below hnx);have hs:=Hi (hno.out.trans (gG kF l x0 k hlt));clear c0 c1 c2 hx hl hno;generalize (l.getD k x0)=x at *;obtain⟨ra,ga,sa,rc,gc,sc,rs,gs,ss⟩:=x;simp only at d0 d1 d2;by_cases hE:bP rs gs ss=0
    ·have HN:=Hi (hs.out.trans (if_pos hE));have HE:=Hi hE;clear hs hE
     go_wp2_with fail
     refine(fA ra ga sa rc gc sc rs gs ss _ (HX.out.t.below gb)).mono ?_;rintro e W ⟨rfl,hbW⟩;rw[HE.out];have RB:=aC hnx (aC (aA br _) hbW);exact UO
    ·have HV:Hid (aH _=bP rs gs ss):=hs.out.trans (if_neg hE);have hb':(bP rs gs ss != 0)=true:=by simpa using hE
     clear hs hE
     go_wp2_with fail
     refine(fA ra ga sa rc gc sc rs gs ss _ (HX.out.t.below gb)).mono ?_;rintro e W ⟨rfl,hbW⟩;have RB:=aC hnx (aC (aA br _) hbW);exact Xl
   ·exact Vc
theorem mA (w:World) (hl:IsTxs w la l) :
  Kr 87 #[J la l.length lc] w (Y I (eN l)):=by
 by_cases h8:8<l.length
 ·have H:Hid (eN l=2):=if_pos h8;clear hl;go_enter func87,ntmps87;go_wp2;go_ret;exact⟨by rw[H.out];rfl,br⟩
 ·have H:Hid (eN l=aH _):=if_neg h8;go_enter func87,ntmps87;go_wp2
  go_loopw [3,4] (fun i _ wr=>∃k:Nat,k<=l.length/\i=Y I k/\Hid (aH (l.map kF)=aH ((l.map kF).drop k))/\Below w.heap.size w wr) (fun i _ _=>l.length - (intOf i).toNat)
  case atStart=>exact⟨0,nz,rfl,rfl,br⟩
  case round=>
   obtain⟨k,hk,rfl,hno,hnx⟩:=hrel;by_cases hlt:k<l.length
   ·obtain⟨b,off,rfl,hb,c0,c1,c2,hx⟩:=hl k hlt;have d0:=aB hnx c0;have d1:=aB hnx c1;have d2:=aB hnx c2;have HX:=Hi (hx.below hnx);have hs:=Hi (hno.out.trans (gG kF l x0 k hlt));clear c0 c1 c2 hx hl hno;generalize (l.getD k x0)=x at *;obtain⟨ra,ga,sa,rc,gc,sc,rs,gs,ss⟩:=x;simp only at d0 d1 d2;by_cases hE:bP rs gs ss=0
    ·have HN:=Hi (hs.out.trans (if_pos hE));have HE:=Hi hE;clear hs hE
     go_wp2_with fail
     refine(sD ra ga sa rc gc sc rs gs ss _ (HX.out.t.below gb)).mono ?_;rintro e W ⟨rfl,hbW⟩;rw[HE.out];have RB:=aC hnx hbW;exact UO
    ·have HV:Hid (aH _=bP rs gs ss):=hs.out.trans (if_neg hE);have hb':(bP rs gs ss != 0)=true:=by simpa using hE
     clear hs hE
     go_wp2_with fail
     refine(sD ra ga sa rc gc sc rs gs ss _ (HX.out.t.below gb)).mono ?_;rintro e W ⟨rfl,hbW⟩;have RB:=aC hnx hbW;exact Xl
   ·exact Vc
end
section
open Go.ChangeShapes Go.WideShapes Go.ChangeAt Go.RowKit Go.Deep
section
variable {H:Type} {enc:TypeId×Value->H} {w:World} {base:Nat} {held:Bool}
end
theorem kL:∀(l:List Int),cO l=0->∀z∈l,0<=z/\z<8
 | [],_,z,h=>by cases h
 | y::t,h,z,hz=>by
  unfold cO at h;by_cases c:y<0∨8<=y
  ·rw[if_pos c]at h;omega
  ·rw[if_neg c]at h;rcases List.mem_cons.1 hz with rfl | hz
   ·omega
   ·exact kL t h z hz
theorem nA (l:List Int) (h:cO l=0) (k:Nat) (hk:k<l.length):0<=l.getD k 0/\l.getD k 0<8:=by
 refine kL l h _ ?_;simp[List.getD,hk]
theorem nJ {rs:List Int} {gs:List Gd} {ss:List St} (h:bP rs gs ss=0):cO rs=0/\cO (aJ ss)=0:=by
 have h':=aW _ (bR h).2.1;exact⟨by simpa using h' 0,by simpa using h' 1⟩
theorem uY {w:World} {base:Nat} {n:Nat} {zs:List Int} (h:w.ownsRow base 3 1 v n (zs.map (Y I))):∃a cap,v=J a zs.length cap/\IsAt base w.heap.size w a zs/\(a=Q->cap=0):=by
 have hn:zs.length=n:=by have:=h.1;simpa using this
 rcases h.2 with ⟨rfl,h0⟩ | ⟨g,cap,cur,rfl,hb,hg,hnc,hcm,hcs,htake⟩
 ·refine⟨Q,0,by rw[hn,h0],fun i hi=>?_,fun _=>rfl⟩;omega
 ·refine⟨M ⟨g,0,Q⟩,cap,by rw[hn],fun i hi=>⟨g,0,rfl,hb,(Array.getElem?_eq_some_iff.1 hg).1,?_⟩,fun h=>by cases h⟩;exact UE
theorem take_rd (s rs:List Int) (k:Nat) (h:k<rs.length):(dA s rs).take (k+1)=(dA s rs).take k++[uP s (rs.getD k 0)]:=by
 rw[lp (by simpa[dA]using h)];simp[dA,List.getD,h]
theorem valuesOf_own (s rs:List Int) (sa ra:Option Addr) (sc rc:Nat) (w:World) (hs:IsInts w sa s) (hr:IsInts w ra rs) (h8:s.length=8) (h4:rs.length<=4) (hE:cO rs=0) :
  Calls prog 276 #[J sa s.length sc,J ra rs.length rc] w fun e w'=>∃v,e=rt v/\w'.ownsRow w.heap.size 3 1 v rs.length ((dA s rs).map (Y I))/\Below w.heap.size w w':=by
 obtain⟨i0,hi,hz0,hz1,hz2⟩:=info_parts info3;have hkl:=Hi (mJ s rs);have H8:=Hi h8;have HE:=Hi hE;clear h8 hE;go_enter func276,ntmps276;go_wp2
 go_loopw [5,7,10] (fun v _ i wr=>∃k:Nat,k<=rs.length/\i=Y I k/\wr.ownsRow w.heap.size 3 1 v k (((dA s rs).take k).map (Y I))/\Below w.heap.size w wr) (fun _ _ i _=>rs.length - (intOf i).toNat)
 case atStart=>exact⟨0,nz,rfl,n8 _ _ _ _,br⟩
 case round=>
  obtain⟨k,hk,rfl,hown,hnx⟩:=hrel;have hsz:=hnx.size;by_cases hlt:k<rs.length
  ·obtain⟨b,off,rfl,hb,c0⟩:=hr k hlt;obtain⟨hz,hz'⟩:=nA rs HE.out k hlt;have HT:=Hi (take_rd s rs k hlt);generalize rs.getD k 0=z at *;obtain⟨m,rfl⟩:=wg hz;have hms:m<s.length:=by have:=H8.out;omega
   obtain⟨b',off',rfl,hb',c1⟩:=hs m hms;have d0:=aB hnx c0;have d1:=aB hnx c1;have hg:uP s (m:Int)=s.getD m 0:=rfl;rw[hg]at HT;generalize s.getD m 0=y at *;clear c0 c1 hs hr hg hz hz'
   go_wp2_with (first
    | (at_builtin;refine wpList_append_own _ rfl _ _ 41 rfl w.heap.size 3 i0 (Y I 0) 1 8 underlying41 hi hz0 hz1 hz2 rfl dc _ _ _ rfl (hown.alloc _) ⟨wr.heap.size,0,Q⟩ 1 1 [Y I y] rfl rfl (lP _ _ _ sm) (ints_oneCell I [y]) (by unfold maxLen;omega) om (by simp;omega) ?_;intro v' w1 hown' hgrow _)
    | go_in)
   have R:w1.ownsRow w.heap.size 3 1 v' (k+1) (((dA s rs).take (k+1)).map (Y I)):=by rw[HT.out,ny];exact hown'
   have RB:=((hnx.alloc om _).grown hgrow (by simp;omega) (fun j hj=>(hown.lt j hj).1));clear hown' hgrow hown hnx d0 d1;exact vp
  ·have R:wr.ownsRow w.heap.size 3 1 u5 rs.length ((dA s rs).map (Y I)):=by
    have hkk:k=rs.length:=om;exact Uc
   clear hown hs hr;go_wp2;go_ret;exact⟨_,rfl,R,hnx⟩
theorem valuesOf_any (s rs:List Int) (sa ra:Option Addr) (sc rc:Nat) (w:World) (hs:IsInts w sa s) (hr:IsInts w ra rs) (h8:s.length=8) (h4:rs.length<=4) (hE:cO rs=0) :
  Calls prog 276 #[J sa s.length sc,J ra rs.length rc] w fun e w'=>∃a cap,e=rt (J a (dA s rs).length cap)/\IsAt w.heap.size w'.heap.size w' a (dA s rs)/\(a=Q->cap=0)/\Below w.heap.size w w':=
 (valuesOf_own s rs sa ra sc rc w hs hr h8 h4 hE).mono fun e w' ⟨v,he,ho,hb⟩=>by
  obtain⟨a,cap,rfl,hz,hn⟩:=uY ho;exact⟨a,cap,he,hz,hn,hb⟩
end
theorem xz (h:p:=by
 go_wp2;go_ret;exact⟨by rw[H.out];rfl,aA br _⟩):p:=h
theorem zv (h:p:=by
 go_enter func274,ntmps274
 go_wp2_with fail
 refine(HC.out _ HL.out).mono ?_;rintro e w1 ⟨rfl,hb⟩;have B1:=Hi (aC hg hb);clear hb;exact Up):p:=h
theorem Up (h:p:=by
 go_wp2;go_ret2;exact⟨rfl,B1.out⟩):p:=h
theorem UU (h:p:=by
 rintro e w1 ⟨rfl,hb⟩;have B1:=aC (aA br _) hb;clear hb;go_wp2;go_ret;exact⟨by rw[H.out];rfl,B1⟩):p:=h
theorem Xe (h:p:=by
 go_enter func280,ntmps280;exact xz):p:=h
section
def aN (m:Int) (l:List TxA):Int:=if m<1∨4<m then 3 else eN l
def nQ (n:Int) (k:Nat):Int:=if n<0∨(k:Int)<=n then 5 else 0
def yO (m:Int) (l:List TxA) (n:Int):Int:=aH [aN m l,nQ n l.length]
theorem aX {m:Int} {l:List TxA} (h:aN m l=0):1<=m/\m<=4/\eN l=0:=by
 unfold aN at h;by_cases c:m<1∨4<m
 ·rw[if_pos c]at h;omega
 ·rw[if_neg c]at h;exact⟨by omega,by omega,h⟩
theorem gZ {l:List TxA} (h:eN l=0):l.length<=8:=by
 exact Xn
theorem qM {n:Int} {k:Nat} (h:nQ n k=0):0<=n/\n<k:=by
 unfold nQ at h;by_cases c:n<0∨(k:Int)<=n
 ·rw[if_pos c]at h;omega
 ·omega
theorem kV {m:Int} {l:List TxA} {n:Int} (h:yO m l n=0):aN m l=0/\nQ n l.length=0:=by
 have h':=aW _ h;exact⟨by simpa using h' 0,by simpa using h' 1⟩
theorem iX (n low high:Int) (w:World) :
  Calls prog 86 #[Y I n,Y I low,Y I high] w fun e w'=>e=rt (bo (decide (low<=n) && decide (n<=high)))/\w'=w:=by
 by_cases h1:low<=n
 ·by_cases h2:n<=high
  ·go_enter func86,ntmps86;go_wp2;go_ret;exact⟨by simp[h1,h2],rfl⟩
  ·go_enter func86,ntmps86;go_wp2;go_ret;exact⟨by simp[h2],rfl⟩
 ·go_enter func86,ntmps86;go_wp2;go_ret;exact⟨by simp;omega,rfl⟩
variable (la:Option Addr) (lc:Nat) (l:List TxA) (m n key:Int)
theorem cI (w:World) (hl:IsTxs w la l) :
  Kr 28 #[ag #[Y I m,J la l.length lc]] w (Y I (aN m l)):=by
 have HL:Hid (IsTxs (w.alloc (U #[Y I m,J la l.length lc] 29)) la l):=hl.below (aA br _);clear hl;by_cases h1:m<1
 ·have H:Hid (aN m l=3):=if_pos (.inl h1);go_enter func28,ntmps28;exact xz
 ·by_cases h4:4<m
  ·have H:Hid (aN m l=3):=if_pos (.inr h4);go_enter func28,ntmps28;exact xz
  ·have H:Hid (aN m l=eN l):=if_neg om;go_enter func28,ntmps28
   go_wp2_with fail
   refine(kY la lc l _ HL.out).mono ?_;exact UU
theorem jN (w:World) (hl:IsTxs w la l) :
  Kr 48 #[ag #[Y I m,J la l.length lc]] w (Y I (aN m l)):=by
 have HL:Hid (IsTxs (w.alloc (U #[Y I m,J la l.length lc] 29)) la l):=hl.below (aA br _);clear hl;by_cases h1:m<1∨4<m
 ·have H:Hid (aN m l=3):=if_pos h1
  have HW:Hid (∀w,Calls prog 86 #[Y I m,Y I 1,Y I 4] w fun e w'=>e=rt (bo false)/\w'=w):=fun w=>by
   have h:=iX m 1 4 w;have e:(decide (1<=m) && decide (m<=4))=false:=by simp;omega
   rw[e]at h;exact h
  clear h1;go_enter func48,ntmps48
  go_wp2_with fail
  refine(HW.out _).mono ?_;rintro e w' ⟨rfl,rfl⟩;exact xz
 ·have H:Hid (aN m l=eN l):=if_neg h1
  have HW:Hid (∀w,Calls prog 86 #[Y I m,Y I 1,Y I 4] w fun e w'=>e=rt (bo true)/\w'=w):=fun w=>by
   have h:=iX m 1 4 w;have e:(decide (1<=m) && decide (m<=4))=true:=by simp;omega
   rw[e]at h;exact h
  clear h1;go_enter func48,ntmps48
  go_wp2_with fail
  refine(HW.out _).mono ?_;rintro e w' ⟨rfl,rfl⟩
  go_wp2_with fail
  refine(mA la lc l _ HL.out).mono ?_;exact UU
theorem zB (w:World) :
  Kr 280 #[ag #[Y I m,J la l.length lc],Y I n] w (Y I (nQ n l.length)):=by
 by_cases h1:n<0
 ·have H:Hid (nQ n l.length=5):=if_pos (.inl h1);exact Xe
 ·by_cases h2:(l.length:Int)<=n
  ·have H:Hid (nQ n l.length=5):=if_pos (.inr h2);exact Xe
  ·have H:Hid (nQ n l.length=0):=if_neg om;exact Xe
theorem uB (sh k:Nat) (w:World) (hs:0<sh) (hs4:sh<=4) (hk:k<8) :
  Calls prog 281 #[ag #[Y I sh,J la l.length lc],Y I k] w fun e w'=>e=rt (Y I ((k%sh:Nat):Int))/\w'=w.alloc (U #[Y I sh,J la l.length lc] 29):=by
 go_enter func281,ntmps281;go_wp2;go_ret;exact⟨by simp,rfl⟩
def mY (m:Int) (l:List TxA) (key:Int):Int:=aH [aN m l,if key<0∨8<=key then 3 else 0]
def qF (m:Int) (l:List TxA) (key:Int):Int:=if mY m l key=0 then key%m else 0
theorem shard_any (w:World) (hl:IsTxs w la l) :
  Kr 274 #[ag #[Y I m,J la l.length lc],Y I key] w (tu #[Y I (qF m l key),Y I (mY m l key)]):=by
 have hg:Below w.heap.size w (w.alloc (U #[Y I m,J la l.length lc] 29)):=aA br _;have HL:=Hi (hl.below hg);clear hl;have HC:=Hi (fun w h=>cI la lc l m w h);by_cases h1:aN m l=0
 ·obtain⟨m1,m4,_⟩:=aX h1;obtain⟨sh,rfl⟩:∃sh:Nat,m=sh:=⟨m.toNat,by omega⟩
  have HE:mY sh l key=if key<0∨8<=key then 3 else 0:=by
   unfold mY;simp only[aH,if_pos h1];by_cases c:key<0∨8<=key
   ·rw[if_pos c,if_neg om]
   ·rw[if_neg c,if_pos rfl]
  have HV:qF sh l key=if key<0∨8<=key then 0 else key%(sh:Int):=by
   unfold qF;rw[HE];by_cases c:key<0∨8<=key
   ·rw[if_pos c,if_pos c,if_neg om]
   ·rw[if_neg c,if_neg c,if_pos rfl]
  rw[HE,HV];rw[h1]at HC;clear HE HV h1;by_cases c:key<0∨8<=key
  ·rw[if_pos c,if_pos c];rcases c with c | c
   rotate_left
   focus
    have c':¬key<0:=om
   rotate_left
   all_goals
    exact zv
  ·rw[if_neg c,if_neg c];obtain⟨k,rfl⟩:∃k:Nat,key=k:=⟨key.toNat,by omega⟩;have k8:k<8:=om;have s0:0<sh:=om;have s4:sh<=4:=om;have d1:¬(k:Int)<0:=om;clear c m1 m4;go_enter func274,ntmps274
   go_wp2_with fail
   refine(HC.out _ HL.out).mono ?_;rintro e w1 ⟨rfl,hb⟩;have q0:w1.cell? ⟨w.heap.size,0,Q⟩=Y I sh:=aB hb sm;have q1:w1.cell? ⟨w.heap.size,1,Q⟩=J la l.length lc:=aB hb sm;have B1:=Hi (aC hg hb);clear hb
   go_wp2_with fail
   refine(uB la lc l sh k _ s0 s4 k8).mono ?_;rintro e w' ⟨rfl,hw'⟩;rw[hw'];go_wp2;go_ret2;exact⟨by simp,aA B1.out _⟩
 ·have HE:mY m l key=aN m l:=by
   unfold mY;simp only[aH,if_neg h1]
  have HV:qF m l key=0:=by
   unfold qF;rw[HE,if_neg h1]
  rw[HE,HV];generalize aN m l=x at *;have hx:(x != 0)=true:=by simpa using h1
  clear HE HV h1;exact zv
theorem uN (a:Option Addr) (k c:Nat) (w:World):Calls prog 234 #[J a k c,Y I 0] w fun e' w'=>e'=rt (J a k c)/\w'=w.alloc (U #[Y I 0] 22):=by
 go_enter func234,ntmps234;exact vr
end
structure Good (x:TxA):Prop where
 r:∀k∈x.rs,0<=k/\k<8
 s:∀k∈aJ x.ss,0<=k/\k<8
 n:aJ x.ss≠[]
theorem lR {x:TxA} (h:kF x=0):Good x:=by
 obtain⟨ra,ga,sa,rc,gc,sc,rs,gs,ss⟩:=x;have h':bP rs gs ss=0:=h;obtain⟨h1,h2⟩:=nJ h';obtain⟨_,_,_,h3⟩:=bI _ _ _ (bR h').1;refine⟨fun k hk=>kL _ h1 k hk,fun k hk=>kL _ h2 k hk,fun h0=>?_⟩
 have:(aJ ss).length=0:=by
  have h0':aJ ss=[]:=h0;rw[h0'];rfl
 rw[cM]at this;omega
def rdX (x:TxA) (k:Nat):Bool:=decide ((k:Int)∈x.rs)
def pZ (x:TxA) (k:Nat):Bool:=decide ((k:Int)∈aJ x.ss)
def nF (x:TxA) (k:Nat):Bool:=rdX x k || pZ x k
def gH (x y:TxA) (k:Nat):Bool:=(pZ x k && (rdX y k || pZ y k)) || (pZ y k && rdX x k)
theorem jU (x y:TxA) (k:Nat):gH x y k=(nF x k && nF y k && (pZ x k || pZ y k)):=by
 unfold gH nF
 cases pZ x k <;> cases rdX x k <;> cases pZ y k <;> cases rdX y k <;> rfl
theorem clashAt_symm (x y:TxA) (k:Nat):gH x y k=gH y x k:=by
 rw[jU,jU]
 cases nF x k <;> cases nF y k <;> cases pZ x k <;> cases pZ y k <;> rfl
theorem lkTo_mem (rs ks:List Int) (p:Int×Bool):∀n,p∈bQ rs ks n↔∃k:Nat,k<n/\((k:Int)∈ks∨(k:Int)∈rs)/\p=((k:Int),decide ((k:Int)∈ks))
 | 0=>by simp[bQ]
 | n+1=>by
  rw[bQ,List.mem_append,lkTo_mem rs ks p n];constructor
  ·rintro (⟨k,hk,h⟩ | h)
   ·exact⟨k,by omega,h⟩
   ·by_cases c:(n:Int)∈ks∨(n:Int)∈rs
    ·rw[if_pos c,kb]at h;exact⟨n,by omega,c,h⟩
    ·rw[if_neg c]at h
     cases h
  ·rintro ⟨k,hk,hc,h⟩;by_cases e:k=n
   ·subst e;right;rw[if_pos hc,kb];exact h
   ·exact .inl ⟨k,by omega,hc,h⟩
theorem xP (x:TxA) (k:Nat):nF x k=true↔((k:Int)∈aJ x.ss∨(k:Int)∈x.rs):=by
 unfold nF rdX pZ;simp[Or.comm]
theorem jK (x:TxA) (p:Int×Bool):p∈bQ x.rs (aJ x.ss) 8↔∃k:Nat,k<8/\nF x k=true/\p=((k:Int),pZ x k):=by
 rw[lkTo_mem];constructor
 ·rintro ⟨k,hk,hc,h⟩;exact⟨k,hk,(xP x k).2 hc,h⟩
 ·rintro ⟨k,hk,hc,h⟩;exact⟨k,hk,(xP x k).1 hc,h⟩
def gX (l:List TxA) (i:Nat):TxA:=l.getD i x0
end Go.Proofs.YtcgpkonfneofdaaGreatDoor
